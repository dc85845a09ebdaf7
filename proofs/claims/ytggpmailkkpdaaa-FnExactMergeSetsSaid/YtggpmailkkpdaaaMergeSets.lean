/-
  For any two sets of tiles, MergeSets of the program answers as the model's, both results, in memory of its own; the law FnExactMergeSets returns true and leaves its arguments as they were. Conditions: none.
-/
import Derived.Test.YtggpmailkkpdaaaMergeS
import Derived.Test.YtggpmailkkpdaaaMark
import Derived.Test.YtggpmailkkpdaaaSetLaw
namespace Go.Proofs.Ytggpmailkkpdaaa
open Go.RowKit

theorem SetOwn.sol {w : World} {lo : Nat} {vg vt : Value} {S : Set_} (h : SetOwn w lo vg vt S) : ∃ a k q, vg = .slice (some a) k q := let ⟨_, _, _, _, h3, _⟩ := h; ⟨_, _, _, h3.1⟩
theorem OwnSet.mono {w : World} {lo hi lo' hi' : Nat} {vg vt : Value} {S : Set_} (h : OwnSet w lo hi vg vt S) (hl : lo' ≤ lo) (hh : hi ≤ hi') : OwnSet w lo' hi' vg vt S :=
  let ⟨a, b, c, d, h1, h2, h3, h4, h5, h6, h7⟩ := h
  ⟨a, b, c, d, by omega, by omega, by omega, by omega, h5, h6, h7⟩
theorem OwnSet.below {w w1 : World} {lo hi : Nat} {vg vt : Value} {S : Set_} (h : OwnSet w lo hi vg vt S) (hb : Below w.heap.size w w1) : OwnSet w1 lo hi vg vt S :=
  h.keep (Within.of (lo := 0) (hi := 0) hb) (.inr (Nat.zero_le _))
theorem smallMergeSets {A B : Set_} (sa : A.small) (sb : B.small) : (meS A B).small := by
  by_cases h : meC A B = 0
  · rw [meS_yes h]
    have h2 : (mS A B).gs.length ≤ 200 ∧ (mS A B).ts.length ≤ 160 := by
      unfold meC at h
      split at h
      · simp at h
      · split at h
        · simp at h
        · split at h
          · simp at h
          · split at h
            · simp at h
            · omega
    exact mS_small sa sb (by omega) (by omega)
  · rw [meS_no rfl h]
    exact ⟨by simp, fun i hi => absurd hi (by simp), by simp, fun i hi => absurd hi (by simp)⟩
theorem specMergeSets_law (vg1 vt1 : Value) (S1 : Set_) (vg2 vt2 : Value) (S2 : Set_) (w : World) (h1 : SetIn w vg1 vt1 S1) (s1 : ∃ a k q, vg1 = .slice (some a) k q) (o1 : S1.ok) (m1 : S1.small) (h2 : SetIn w vg2 vt2 S2) (_s2 : ∃ a k q, vg2 = .slice (some a) k q) (o2 : S2.ok) (m2 : S2.small) :
    Calls Try.prog 8 #[.agg #[vg1, vt1], .agg #[vg2, vt2]] w fun e w' => ShowPost w (meS S1 S2) (meC S1 S2) e w' ∧ Below w.heap.size w w' := specMergeSets_any vg1 vt1 vg2 vt2 S1 S2 w h1 h2 s1 o1 o2 m1 m2
theorem implMergeSets_law (vg1 vt1 : Value) (S1 : Set_) (vg2 vt2 : Value) (S2 : Set_) (w : World) (h1 : SetIn w vg1 vt1 S1) (s1 : ∃ a k q, vg1 = .slice (some a) k q) (o1 : S1.ok) (m1 : S1.small) (h2 : SetIn w vg2 vt2 S2) (_s2 : ∃ a k q, vg2 = .slice (some a) k q) (o2 : S2.ok) (m2 : S2.small) :
    Calls Try.prog 10 #[.agg #[vg1, vt1], .agg #[vg2, vt2]] w fun e w' => SetPost w (meS S1 S2) (meC S1 S2) e w' ∧ Below w.heap.size w w' := implMergeSets_any vg1 vt1 vg2 vt2 S1 S2 w h1 h2 (.inr s1) o1 o2 m1 m2

/-- All orders of a region have one tail. -/
theorem ot_FnExactMergeSets_z (F : Value → Value → Value → Value → Option Addr → Nat → Nat → Option Addr → Nat → Nat → World → Nat → Prop) {G : Value → Value → Value → Value → Option Addr → Nat → Nat → Option Addr → Nat → Nat → World → Nat → Prop} {Goal : Prop} (h : (∀ x0 x1 x2 x3 x4 x5 x6 x7 x8 x9 W p, F x0 x1 x2 x3 x4 x5 x6 x7 x8 x9 W p → ∀ W' p', W = W' → p = p' → G x0 x1 x2 x3 x4 x5 x6 x7 x8 x9 W' p') → Goal) (k : ∀ x0 x1 x2 x3 x4 x5 x6 x7 x8 x9 W p, F x0 x1 x2 x3 x4 x5 x6 x7 x8 x9 W p → G x0 x1 x2 x3 x4 x5 x6 x7 x8 x9 W p) : Goal :=
  h fun x0 x1 x2 x3 x4 x5 x6 x7 x8 x9 W p hF W' p' e1 e2 => by subst e1; subst e2; exact k x0 x1 x2 x3 x4 x5 x6 x7 x8 x9 W p hF
/-- All orders of a region have one tail. -/
theorem ot_FnExactMergeSets_h (F : Value → Value → Value → Value → Option Addr → Nat → Nat → Option Addr → Nat → Nat → World → Nat → Prop) {G : Value → Value → Value → Value → Option Addr → Nat → Nat → Option Addr → Nat → Nat → World → Nat → Prop} {Goal : Prop} (h : (∀ x0 x1 x2 x3 x4 x5 x6 x7 x8 x9 W p, F x0 x1 x2 x3 x4 x5 x6 x7 x8 x9 W p → ∀ W' p', W = W' → p = p' → G x0 x1 x2 x3 x4 x5 x6 x7 x8 x9 W' p') → Goal) (k : ∀ x0 x1 x2 x3 x4 x5 x6 x7 x8 x9 W p, F x0 x1 x2 x3 x4 x5 x6 x7 x8 x9 W p → G x0 x1 x2 x3 x4 x5 x6 x7 x8 x9 W p) : Goal :=
  h fun x0 x1 x2 x3 x4 x5 x6 x7 x8 x9 W p hF W' p' e1 e2 => by subst e1; subst e2; exact k x0 x1 x2 x3 x4 x5 x6 x7 x8 x9 W p hF
set_option maxRecDepth 100000 in
set_option maxHeartbeats 1000000 in
set_option linter.unusedVariables false in
set_option linter.unusedSimpArgs false in
theorem walk_FnExactMergeSets (vg1 vt1 : Value) (S1 : Set_) (vg2 vt2 : Value) (S2 : Set_) (w : World) (h1 : SetIn w vg1 vt1 S1) (ok1 : S1.ok) (h2 : SetIn w vg2 vt2 S2) (ok2 : S2.ok) :
    Calls Try.prog 3 #[.agg #[vg1, vt1], .agg #[vg2, vt2]] w fun e w' => e = .returned (.bool true) ∧ Below w.heap.size w w' := by
  have H1 := Lib.hid h1
  clear h1
  have H2 := Lib.hid h2
  clear h2
  have A1_0' : At ((w.alloc (.cells #[vg1, vt1] 25)).alloc (.cells #[vg2, vt2] 25)) (w.heap.size) (vg1) (vt1) := ⟨by simp [go_sem], by simp [go_sem]⟩
  have A1_0 := Lib.hid A1_0'
  clear A1_0'
  have A2_0' : At ((w.alloc (.cells #[vg1, vt1] 25)).alloc (.cells #[vg2, vt2] 25)) (w.heap.size + 1) (vg2) (vt2) := ⟨by simp [go_sem], by simp [go_sem]⟩
  have A2_0 := Lib.hid A2_0'
  clear A2_0'
  go_enter Try.func3, Try.ntmps3
  go_wp2_with fail
  refine (szTileSet_any vg1 vt1 S1 1048576 _ (H1.out.below (by (repeat (first | exact Below.refl _ _ | refine Below.setCell ?_ (by first | (simp; done) | (simp; omega) | omega) _ | refine belowN ?_ _ | refine Below.drew ?_ | refine Below.alloc ?_ (by first | (simp; done) | (simp; omega) | omega) _ | refine Below.trans ?_ (Below.mono (by assumption) (by first | (simp; done) | (simp; omega) | omega)))))) ok1 (by omega) (by omega)).mono ?_
  rintro e w1 ⟨⟨r1, rfl, hr⟩, hb⟩
  have B1 : Below w.heap.size w w1 := by (repeat (first | exact Below.refl _ _ | refine Below.setCell ?_ (by first | (simp; done) | (simp; omega) | omega) _ | refine belowN ?_ _ | refine Below.drew ?_ | refine Below.alloc ?_ (by first | (simp; done) | (simp; omega) | omega) _ | refine Below.trans ?_ (Below.mono (by assumption) (by first | (simp; done) | (simp; omega) | omega))))
  have A1_1 := Lib.hid (A1_0.out.below hb)
  have A2_1 := Lib.hid (A2_0.out.below hb)
  have s1 : w.heap.size + 1 < w1.heap.size := A2_1.out.lt
  clear hb
  rcases hr with rfl | ⟨hl1, hm1, hs1⟩
  · go_wp2
    go_ret
    exact ⟨rfl, B1⟩
  have bb1 : decide (r1 < 0) = false := by simp; omega
  obtain ⟨kA10, kA11⟩ := A1_1.out
  have lA1 := A1_1.out.lt
  obtain ⟨kA20, kA21⟩ := A2_1.out
  have lA2 := A2_1.out.lt
  go_wp2_with fail
  clear kA10 kA11 lA1 kA20 kA21 lA2
  refine (szTileSet_any vg2 vt2 S2 r1 _ (H2.out.below (by (repeat (first | exact Below.refl _ _ | refine Below.setCell ?_ (by first | (simp; done) | (simp; omega) | omega) _ | refine belowN ?_ _ | refine Below.drew ?_ | refine Below.alloc ?_ (by first | (simp; done) | (simp; omega) | omega) _ | refine Below.trans ?_ (Below.mono (by assumption) (by first | (simp; done) | (simp; omega) | omega)))))) ok2 hl1 (by omega)).mono ?_
  rintro e w2 ⟨⟨r2, rfl, hr⟩, hb⟩
  have q2 : Below w1.heap.size w1 w2 := by (repeat (first | exact Below.refl _ _ | refine Below.setCell ?_ (by first | (simp; done) | (simp; omega) | omega) _ | refine belowN ?_ _ | refine Below.drew ?_ | refine Below.alloc ?_ (by first | (simp; done) | (simp; omega) | omega) _ | refine Below.trans ?_ (Below.mono (by assumption) (by first | (simp; done) | (simp; omega) | omega))))
  have s2 : w1.heap.size ≤ w2.heap.size := q2.size
  have B2 : Below w.heap.size w w2 := B1.trans (q2.mono (by omega))
  have A1_2 := Lib.hid (A1_1.out.below q2)
  have A2_2 := Lib.hid (A2_1.out.below q2)
  clear hb q2
  rcases hr with rfl | ⟨hl2, hm2, hs2⟩
  · go_wp2
    go_ret
    exact ⟨rfl, B2⟩
  have bb2 : decide (r2 < 0) = false := by simp; omega
  obtain ⟨kA10, kA11⟩ := A1_2.out
  have lA1 := A1_2.out.lt
  obtain ⟨kA20, kA21⟩ := A2_2.out
  have lA2 := A2_2.out.lt
  go_wp2_with fail
  apply ot_FnExactMergeSets_z (fun (z1g : Value) (z1t : Value) (z2g : Value) (z2t : Value) (zrg0 : Option Addr) (zrg1 : Nat) (zrg2 : Nat) (zrg3 : Option Addr) (zrg4 : Nat) (zrg5 : Nat) (W : World) (pw : Nat) => At W pw (.slice zrg0 zrg1 zrg2) (.slice zrg3 zrg4 zrg5) ∧ SetIn W (.slice zrg0 zrg1 zrg2) (.slice zrg3 zrg4 zrg5) (meS S1 S2) ∧ Below w2.heap.size w2 W)
  focus
    intro key
    refine wp_region_held_drew (S := (fun w' => w'.cell? ⟨w.heap.size, 0, none⟩ = some (vg1) ∧ w'.cell? ⟨w.heap.size, 1, none⟩ = some (vt1) ∧ w'.cell? ⟨w.heap.size + 1, 0, none⟩ = some (vg2) ∧ w'.cell? ⟨w.heap.size + 1, 1, none⟩ = some (vt2))) (by kernel_rfl) ?_ (fun hHeld => ?_)
    · (try dsimp only)
      (((try go_split_ands); (try dsimp only); (repeat' apply And.intro)) <;> (repeat (first | with_reducible assumption | ((with_reducible refine cnew0 ?_); simp; done) | ((with_reducible refine cnew1 ?_); simp; done) | (with_reducible refine akeep ?_) | (with_reducible refine dkeep ?_) | ((with_reducible refine skeep ?_ ?_); rotate_left; (first | ((try dsimp only); omega) | (simp; done) | (simp; omega))) | (with_reducible refine bkeep hb3 ?_))))
    refine wpAnyH_take (i := 0) (oi := ⟨_, _, _, _, _, _⟩) (v := ?_) rfl (by kernel_rfl) (by kernel_rfl) (by kernel_rfl) (fun _ _ _ h => h) (Or.inl ⟨by rfl, ?_⟩) (by assumption) ?_
    rotate_left
    · (intro w hSw; (try dsimp only at hSw); go_simp; (try with_reducible rfl))
    (try simp only [Act.put, List.setIfInBounds_toArray, List.set_cons_zero, List.set_cons_succ])
    refine wpAnyH_take (i := 2) (oi := ⟨_, _, _, _, _, _⟩) (v := ?_) rfl (by kernel_rfl) (by kernel_rfl) (by kernel_rfl) (fun _ _ _ h => h) (Or.inl ⟨by rfl, ?_⟩) (by assumption) ?_
    rotate_left
    · (intro w hSw; (try dsimp only at hSw); go_simp; (try with_reducible rfl))
    (try simp only [Act.put, List.setIfInBounds_toArray, List.set_cons_zero, List.set_cons_succ])
    refine wpAnyH_ready (rs := [1, 8]) (by kernel_rfl) (by simp) ?_
    refine AllReadyH.cons (o := ⟨_, _, _, _, _, _⟩) rfl (fun K hK => ?_) (AllReadyH.cons (o := ⟨_, _, _, _, _, _⟩) rfl (fun K hK => ?_) AllReadyH.nil)
    focus
      go_simp
      (go_at_call_of 9 (Value.agg #[vg1, vt1]); refine (toTileSet_any vg1 vt1 S1 _ (H1.out.below (by (repeat (first | exact Below.refl _ _ | refine Below.setCell ?_ (by first | (simp; done) | (simp; omega) | omega) _ | refine belowN ?_ _ | refine Below.drew ?_ | refine Below.alloc ?_ (by first | (simp; done) | (simp; omega) | omega) _ | refine Below.trans ?_ (Below.mono (by assumption) (by first | (simp; done) | (simp; omega) | omega)))))) hs1).mono ?_; rintro e w3 ⟨⟨z1g, z1t, rfl, zo1⟩, hb3⟩; have s3 : w2.heap.size ≤ w3.heap.size := Nat.le_trans (by first | exact Nat.le_refl _ | (simp; done) | (simp; omega)) hb3.size)
      refine hK.out _ _ ?_ (fun hHeld => ?_)
      · (try dsimp only)
        (((try go_split_ands); (try dsimp only); (repeat' apply And.intro)) <;> (repeat (first | with_reducible assumption | ((with_reducible refine cnew0 ?_); simp; done) | ((with_reducible refine cnew1 ?_); simp; done) | (with_reducible refine akeep ?_) | (with_reducible refine dkeep ?_) | ((with_reducible refine skeep ?_ ?_); rotate_left; (first | ((try dsimp only); omega) | (simp; done) | (simp; omega))) | (with_reducible refine bkeep hb3 ?_))))
      clear hK K
      (try simp only [Act.put, List.setIfInBounds_toArray, List.set_cons_zero, List.set_cons_succ])
      refine wpAnyH_ready (rs := [3, 8]) (by kernel_rfl) (by simp) ?_
      refine AllReadyH.cons (o := ⟨_, _, _, _, _, _⟩) rfl (fun K hK => ?_) (AllReadyH.cons (o := ⟨_, _, _, _, _, _⟩) rfl (fun K hK => ?_) AllReadyH.nil)
      focus
        go_simp
        (go_at_call_of 9 (Value.agg #[vg2, vt2]); refine (toTileSet_any vg2 vt2 S2 _ (H2.out.below (by (repeat (first | exact Below.refl _ _ | refine Below.setCell ?_ (by first | (simp; done) | (simp; omega) | omega) _ | refine belowN ?_ _ | refine Below.drew ?_ | refine Below.alloc ?_ (by first | (simp; done) | (simp; omega) | omega) _ | refine Below.trans ?_ (Below.mono (by assumption) (by first | (simp; done) | (simp; omega) | omega)))))) hs2).mono ?_; rintro e w4 ⟨⟨z2g, z2t, rfl, zo2⟩, hb3⟩; have s4 : w3.heap.size ≤ w4.heap.size := Nat.le_trans (by first | exact Nat.le_refl _ | (simp; done) | (simp; omega)) hb3.size)
        refine hK.out _ _ ?_ (fun hHeld => ?_)
        · (try dsimp only)
          (((try go_split_ands); (try dsimp only); (repeat' apply And.intro)) <;> (repeat (first | with_reducible assumption | ((with_reducible refine cnew0 ?_); simp; done) | ((with_reducible refine cnew1 ?_); simp; done) | (with_reducible refine akeep ?_) | (with_reducible refine dkeep ?_) | ((with_reducible refine skeep ?_ ?_); rotate_left; (first | ((try dsimp only); omega) | (simp; done) | (simp; omega))) | (with_reducible refine bkeep hb3 ?_))))
        clear hK K
        (try simp only [Act.put, List.setIfInBounds_toArray, List.set_cons_zero, List.set_cons_succ])
        refine wpAnyH_ready (rs := [4, 8]) (by kernel_rfl) (by simp) ?_
        refine AllReadyH.cons (o := ⟨_, _, _, _, _, _⟩) rfl (fun K hK => ?_) (AllReadyH.cons (o := ⟨_, _, _, _, _, _⟩) rfl (fun K hK => ?_) AllReadyH.nil)
        focus
          go_simp
          (go_at_call 8; refine (specMergeSets_law z1g z1t S1 z2g z2t S2 _ ((zo1.setIn hs1).below (by (repeat (first | exact Below.refl _ _ | refine Below.setCell ?_ (by first | (simp; done) | (simp; omega) | omega) _ | refine belowN ?_ _ | refine Below.drew ?_ | refine Below.alloc ?_ (by first | (simp; done) | (simp; omega) | omega) _ | refine Below.trans ?_ (Below.mono (by assumption) (by first | (simp; done) | (simp; omega) | omega)))))) zo1.sol ok1 hs1 ((zo2.setIn hs2).below (by (repeat (first | exact Below.refl _ _ | refine Below.setCell ?_ (by first | (simp; done) | (simp; omega) | omega) _ | refine belowN ?_ _ | refine Below.drew ?_ | refine Below.alloc ?_ (by first | (simp; done) | (simp; omega) | omega) _ | refine Below.trans ?_ (Below.mono (by assumption) (by first | (simp; done) | (simp; omega) | omega)))))) zo2.sol ok2 hs2).mono ?_; rintro e w5 ⟨⟨zrg, zrt, rfl, zro⟩, hb3⟩; have s5 : w4.heap.size ≤ w5.heap.size := Nat.le_trans (by first | exact Nat.le_refl _ | (simp; done) | (simp; omega)) hb3.size; obtain ⟨zrg0, zrg1, zrg2, zrg3, zrg4, zrg5, rfl, rfl⟩ := zro.setIn.shape)
          refine hK.out _ _ ?_ (fun hHeld => ?_)
          · (try dsimp only)
            (((try go_split_ands); (try dsimp only); (repeat' apply And.intro)) <;> (repeat (first | with_reducible assumption | ((with_reducible refine cnew0 ?_); simp; done) | ((with_reducible refine cnew1 ?_); simp; done) | (with_reducible refine akeep ?_) | (with_reducible refine dkeep ?_) | ((with_reducible refine skeep ?_ ?_); rotate_left; (first | ((try dsimp only); omega) | (simp; done) | (simp; omega))) | (with_reducible refine bkeep hb3 ?_))))
          clear hK K
          (try simp only [Act.put, List.setIfInBounds_toArray, List.set_cons_zero, List.set_cons_succ])
          refine wpAnyH_take (i := 5) (oi := ⟨_, _, _, _, _, _⟩) (v := ?_) rfl (by kernel_rfl) (by kernel_rfl) (by kernel_rfl) (fun _ _ _ h => h) (Or.inl ⟨by rfl, ?_⟩) (by assumption) ?_
          rotate_left
          · (intro w hSw; (try dsimp only at hSw); go_simp; (try with_reducible rfl))
          (try simp only [Act.put, List.setIfInBounds_toArray, List.set_cons_zero, List.set_cons_succ])
          refine wpAnyH_take (i := 6) (oi := ⟨_, _, _, _, _, _⟩) (v := ?_) rfl (by kernel_rfl) (by kernel_rfl) (by kernel_rfl) (fun _ _ _ h => h) (Or.inl ⟨by rfl, ?_⟩) (by assumption) ?_
          rotate_left
          · (intro w hSw; (try dsimp only at hSw); go_simp; (try with_reducible rfl))
          (try simp only [Act.put, List.setIfInBounds_toArray, List.set_cons_zero, List.set_cons_succ])
          refine wpAnyH_take (i := 7) (oi := ⟨_, _, _, _, _, _⟩) (v := ?_) rfl (by kernel_rfl) (by kernel_rfl) (by kernel_rfl) (fun _ _ _ h => h) (Or.inl ⟨by rfl, ?_⟩) (by assumption) ?_
          rotate_left
          · (intro w hSw; (try dsimp only at hSw); go_simp; (try with_reducible rfl))
          (try simp only [Act.put, List.setIfInBounds_toArray, List.set_cons_zero, List.set_cons_succ])
          refine wpAnyH_ready (rs := [8]) (by kernel_rfl) (by simp) ?_
          refine AllReadyH.cons (o := ⟨_, _, _, _, _, _⟩) rfl (fun K hK => ?_) AllReadyH.nil
          go_simp
          refine hK.out _ _ ?_ (fun hHeld => ?_)
          · (try dsimp only)
            (((try go_split_ands); (try dsimp only); (repeat' apply And.intro)) <;> (repeat (first | with_reducible assumption | ((with_reducible refine cnew0 ?_); simp; done) | ((with_reducible refine cnew1 ?_); simp; done) | (with_reducible refine akeep ?_) | (with_reducible refine dkeep ?_) | ((with_reducible refine skeep ?_ ?_); rotate_left; (first | ((try dsimp only); omega) | (simp; done) | (simp; omega))) | (with_reducible refine bkeep hb3 ?_))))
          clear hK K
          (try simp only [Act.put, List.setIfInBounds_toArray, List.set_cons_zero, List.set_cons_succ])
          refine wpAnyH_ready (rs := [9]) (by kernel_rfl) (by simp) ?_
          refine AllReadyH.cons (o := ⟨_, _, _, _, _, _⟩) rfl (fun K hK => ?_) AllReadyH.nil
          go_simp
          refine hK.out _ _ ?_ (fun hHeld => ?_)
          · (try dsimp only)
            (((try go_split_ands); (try dsimp only); (repeat' apply And.intro)) <;> (repeat (first | with_reducible assumption | ((with_reducible refine cnew0 ?_); simp; done) | ((with_reducible refine cnew1 ?_); simp; done) | (with_reducible refine akeep ?_) | (with_reducible refine dkeep ?_) | ((with_reducible refine skeep ?_ ?_); rotate_left; (first | ((try dsimp only); omega) | (simp; done) | (simp; omega))) | (with_reducible refine bkeep hb3 ?_))))
          clear hK K
          (try simp only [Act.put, List.setIfInBounds_toArray, List.set_cons_zero, List.set_cons_succ])
          refine wpAnyH_take (i := 10) (oi := ⟨_, _, _, _, _, _⟩) (v := ?_) rfl (by kernel_rfl) (by kernel_rfl) (by kernel_rfl) (fun _ _ _ h => h) (Or.inl ⟨by rfl, ?_⟩) (by assumption) ?_
          rotate_left
          · (intro w hSw; (try dsimp only at hSw); go_simp; (try with_reducible rfl))
          (try simp only [Act.put, List.setIfInBounds_toArray, List.set_cons_zero, List.set_cons_succ])
          refine wpAnyH_done (by kernel_rfl) ?_ _
          have WB : At (w5.alloc (.cells #[(.slice zrg0 zrg1 zrg2), (.slice zrg3 zrg4 zrg5)] 30)) (w5.heap.size) (.slice zrg0 zrg1 zrg2) (.slice zrg3 zrg4 zrg5) := ⟨by simp [go_sem], by simp [go_sem]⟩
          have VP := (zro.below (w1 := (w5.alloc (.cells #[(.slice zrg0 zrg1 zrg2), (.slice zrg3 zrg4 zrg5)] 30))) (by (repeat (first | exact Below.refl _ _ | refine Below.setCell ?_ (by first | (simp; done) | (simp; omega) | omega) _ | refine belowN ?_ _ | refine Below.drew ?_ | refine Below.alloc ?_ (by first | (simp; done) | (simp; omega) | omega) _ | refine Below.trans ?_ (Below.mono (by assumption) (by first | (simp; done) | (simp; omega) | omega))))))
          have qq : Below w2.heap.size w2 (w5.alloc (.cells #[(.slice zrg0 zrg1 zrg2), (.slice zrg3 zrg4 zrg5)] 30)) := by (repeat (first | exact Below.refl _ _ | refine Below.setCell ?_ (by first | (simp; done) | (simp; omega) | omega) _ | refine belowN ?_ _ | refine Below.drew ?_ | refine Below.alloc ?_ (by first | (simp; done) | (simp; omega) | omega) _ | refine Below.trans ?_ (Below.mono (by assumption) (by first | (simp; done) | (simp; omega) | omega))))
          generalize hW : (w5.alloc (.cells #[(.slice zrg0 zrg1 zrg2), (.slice zrg3 zrg4 zrg5)] 30)) = w6
          generalize hp : w5.heap.size = pw
          exact key z1g z1t z2g z2t zrg0 zrg1 zrg2 zrg3 zrg4 zrg5 _ _ ⟨WB, VP.setIn, qq⟩ w6 pw hW hp
        focus
          go_simp
          refine hK.out _ _ ?_ (fun hHeld => ?_)
          · (try dsimp only)
            (((try go_split_ands); (try dsimp only); (repeat' apply And.intro)) <;> (repeat (first | with_reducible assumption | ((with_reducible refine cnew0 ?_); simp; done) | ((with_reducible refine cnew1 ?_); simp; done) | (with_reducible refine akeep ?_) | (with_reducible refine dkeep ?_) | ((with_reducible refine skeep ?_ ?_); rotate_left; (first | ((try dsimp only); omega) | (simp; done) | (simp; omega))) | (with_reducible refine bkeep hb3 ?_))))
          clear hK K
          (try simp only [Act.put, List.setIfInBounds_toArray, List.set_cons_zero, List.set_cons_succ])
          have KB := Two.new (n := w4.heap.size) (w4) (.slice none 0 0) (.slice none 0 0) 30 (by first | rfl | (simp; done))
          refine wpAnyH_ready (rs := [4]) (by kernel_rfl) (by simp) ?_
          refine AllReadyH.cons (o := ⟨_, _, _, _, _, _⟩) rfl (fun K hK => ?_) AllReadyH.nil
          go_simp
          (go_at_call 8; refine (specMergeSets_law z1g z1t S1 z2g z2t S2 _ ((zo1.setIn hs1).below (by (repeat (first | exact Below.refl _ _ | refine Below.setCell ?_ (by first | (simp; done) | (simp; omega) | omega) _ | refine belowN ?_ _ | refine Below.drew ?_ | refine Below.alloc ?_ (by first | (simp; done) | (simp; omega) | omega) _ | refine Below.trans ?_ (Below.mono (by assumption) (by first | (simp; done) | (simp; omega) | omega)))))) zo1.sol ok1 hs1 ((zo2.setIn hs2).below (by (repeat (first | exact Below.refl _ _ | refine Below.setCell ?_ (by first | (simp; done) | (simp; omega) | omega) _ | refine belowN ?_ _ | refine Below.drew ?_ | refine Below.alloc ?_ (by first | (simp; done) | (simp; omega) | omega) _ | refine Below.trans ?_ (Below.mono (by assumption) (by first | (simp; done) | (simp; omega) | omega)))))) zo2.sol ok2 hs2).mono ?_; rintro e w5 ⟨⟨zrg, zrt, rfl, zro⟩, hb3⟩; have s5 : w4.heap.size ≤ w5.heap.size := Nat.le_trans (by first | exact Nat.le_refl _ | (simp; done) | (simp; omega)) hb3.size; obtain ⟨zrg0, zrg1, zrg2, zrg3, zrg4, zrg5, rfl, rfl⟩ := zro.setIn.shape; have KB := KB.below hb3; have lK2 := KB.lt)
          refine hK.out _ _ ?_ (fun hHeld => ?_)
          · (try dsimp only)
            (((try go_split_ands); (try dsimp only); (repeat' apply And.intro)) <;> (repeat (first | with_reducible assumption | ((with_reducible refine cnew0 ?_); simp; done) | ((with_reducible refine cnew1 ?_); simp; done) | (with_reducible refine akeep ?_) | (with_reducible refine dkeep ?_) | ((with_reducible refine skeep ?_ ?_); rotate_left; (first | ((try dsimp only); omega) | (simp; done) | (simp; omega))) | (with_reducible refine bkeep hb3 ?_))))
          clear hK K
          (try simp only [Act.put, List.setIfInBounds_toArray, List.set_cons_zero, List.set_cons_succ])
          refine wpAnyH_take (i := 5) (oi := ⟨_, _, _, _, _, _⟩) (v := ?_) rfl (by kernel_rfl) (by kernel_rfl) (by kernel_rfl) (fun _ _ _ h => h) (Or.inl ⟨by rfl, ?_⟩) (by assumption) ?_
          rotate_left
          · (intro w hSw; (try dsimp only at hSw); go_simp; (try with_reducible rfl))
          (try simp only [Act.put, List.setIfInBounds_toArray, List.set_cons_zero, List.set_cons_succ])
          refine wpAnyH_take (i := 6) (oi := ⟨_, _, _, _, _, _⟩) (v := ?_) rfl (by kernel_rfl) (by kernel_rfl) (by kernel_rfl) (fun _ _ _ h => h) (Or.inl ⟨by rfl, ?_⟩) (by assumption) ?_
          rotate_left
          · (intro w hSw; (try dsimp only at hSw); go_simp; (try with_reducible rfl))
          (try simp only [Act.put, List.setIfInBounds_toArray, List.set_cons_zero, List.set_cons_succ])
          refine wpAnyH_take (i := 7) (oi := ⟨_, _, _, _, _, _⟩) (v := ?_) rfl (by kernel_rfl) (by kernel_rfl) (by kernel_rfl) (fun _ _ _ h => h) (Or.inl ⟨by rfl, ?_⟩) (by assumption) ?_
          rotate_left
          · (intro w hSw; (try dsimp only at hSw); go_simp; (try with_reducible rfl))
          (try simp only [Act.put, List.setIfInBounds_toArray, List.set_cons_zero, List.set_cons_succ])
          obtain ⟨kc0, kc1, kc2, kc3⟩ := KB
          refine wpAnyH_ready (rs := [9]) (by kernel_rfl) (by simp) ?_
          refine AllReadyH.cons (o := ⟨_, _, _, _, _, _⟩) rfl (fun K hK => ?_) AllReadyH.nil
          go_simp
          refine hK.out _ _ ?_ (fun hHeld => ?_)
          · (try dsimp only)
            (((try go_split_ands); (try dsimp only); (repeat' apply And.intro)) <;> (repeat (first | with_reducible assumption | ((with_reducible refine cnew0 ?_); simp; done) | ((with_reducible refine cnew1 ?_); simp; done) | (with_reducible refine akeep ?_) | (with_reducible refine dkeep ?_) | ((with_reducible refine skeep ?_ ?_); rotate_left; (first | ((try dsimp only); omega) | (simp; done) | (simp; omega))) | (with_reducible refine bkeep hb3 ?_))))
          clear hK K
          (try simp only [Act.put, List.setIfInBounds_toArray, List.set_cons_zero, List.set_cons_succ])
          refine wpAnyH_take (i := 10) (oi := ⟨_, _, _, _, _, _⟩) (v := ?_) rfl (by kernel_rfl) (by kernel_rfl) (by kernel_rfl) (fun _ _ _ h => h) (Or.inl ⟨by rfl, ?_⟩) (by assumption) ?_
          rotate_left
          · (intro w hSw; (try dsimp only at hSw); go_simp; (try with_reducible rfl))
          (try simp only [Act.put, List.setIfInBounds_toArray, List.set_cons_zero, List.set_cons_succ])
          refine wpAnyH_done (by kernel_rfl) ?_ _
          have WB : At ((w5.setCell ⟨w4.heap.size, 0, none⟩ (.slice zrg0 zrg1 zrg2)).setCell ⟨w4.heap.size, 1, none⟩ (.slice zrg3 zrg4 zrg5)) (w4.heap.size) (.slice zrg0 zrg1 zrg2) (.slice zrg3 zrg4 zrg5) := ⟨by simp [go_sem, kc0, kc1, kc2, kc3], by simp [go_sem, kc0, kc1, kc2, kc3]⟩
          have VP := ((zro.keep (Within.set (w4.heap.size) (w4.heap.size + 1) w5 (a := ⟨w4.heap.size, 0, none⟩) (Nat.le_refl _) (Nat.lt_succ_self _) (.slice zrg0 zrg1 zrg2)) (.inr (by first | omega | (simp; done) | (simp; omega)))).keep (Within.set (w4.heap.size) (w4.heap.size + 1) (w5.setCell ⟨w4.heap.size, 0, none⟩ (.slice zrg0 zrg1 zrg2)) (a := ⟨w4.heap.size, 1, none⟩) (Nat.le_refl _) (Nat.lt_succ_self _) (.slice zrg3 zrg4 zrg5)) (.inr (by first | omega | (simp; done) | (simp; omega))))
          have qq : Below w2.heap.size w2 ((w5.setCell ⟨w4.heap.size, 0, none⟩ (.slice zrg0 zrg1 zrg2)).setCell ⟨w4.heap.size, 1, none⟩ (.slice zrg3 zrg4 zrg5)) := by (repeat (first | exact Below.refl _ _ | refine Below.setCell ?_ (by first | (simp; done) | (simp; omega) | omega) _ | refine belowN ?_ _ | refine Below.drew ?_ | refine Below.alloc ?_ (by first | (simp; done) | (simp; omega) | omega) _ | refine Below.trans ?_ (Below.mono (by assumption) (by first | (simp; done) | (simp; omega) | omega))))
          generalize hW : ((w5.setCell ⟨w4.heap.size, 0, none⟩ (.slice zrg0 zrg1 zrg2)).setCell ⟨w4.heap.size, 1, none⟩ (.slice zrg3 zrg4 zrg5)) = w6
          generalize hp : w4.heap.size = pw
          exact key z1g z1t z2g z2t zrg0 zrg1 zrg2 zrg3 zrg4 zrg5 _ _ ⟨WB, VP.setIn, qq⟩ w6 pw hW hp
      focus
        go_simp
        refine hK.out _ _ ?_ (fun hHeld => ?_)
        · (try dsimp only)
          (((try go_split_ands); (try dsimp only); (repeat' apply And.intro)) <;> (repeat (first | with_reducible assumption | ((with_reducible refine cnew0 ?_); simp; done) | ((with_reducible refine cnew1 ?_); simp; done) | (with_reducible refine akeep ?_) | (with_reducible refine dkeep ?_) | ((with_reducible refine skeep ?_ ?_); rotate_left; (first | ((try dsimp only); omega) | (simp; done) | (simp; omega))) | (with_reducible refine bkeep hb3 ?_))))
        clear hK K
        (try simp only [Act.put, List.setIfInBounds_toArray, List.set_cons_zero, List.set_cons_succ])
        have KB := Two.new (n := w3.heap.size) (w3) (.slice none 0 0) (.slice none 0 0) 30 (by first | rfl | (simp; done))
        refine wpAnyH_ready (rs := [3]) (by kernel_rfl) (by simp) ?_
        refine AllReadyH.cons (o := ⟨_, _, _, _, _, _⟩) rfl (fun K hK => ?_) AllReadyH.nil
        go_simp
        (go_at_call_of 9 (Value.agg #[vg2, vt2]); refine (toTileSet_any vg2 vt2 S2 _ (H2.out.below (by (repeat (first | exact Below.refl _ _ | refine Below.setCell ?_ (by first | (simp; done) | (simp; omega) | omega) _ | refine belowN ?_ _ | refine Below.drew ?_ | refine Below.alloc ?_ (by first | (simp; done) | (simp; omega) | omega) _ | refine Below.trans ?_ (Below.mono (by assumption) (by first | (simp; done) | (simp; omega) | omega)))))) hs2).mono ?_; rintro e w4 ⟨⟨z2g, z2t, rfl, zo2⟩, hb3⟩; have s4 : w3.heap.size ≤ w4.heap.size := Nat.le_trans (by first | exact Nat.le_refl _ | (simp; done) | (simp; omega)) hb3.size; have KB := KB.below hb3; have lK1 := KB.lt)
        refine hK.out _ _ ?_ (fun hHeld => ?_)
        · (try dsimp only)
          (((try go_split_ands); (try dsimp only); (repeat' apply And.intro)) <;> (repeat (first | with_reducible assumption | ((with_reducible refine cnew0 ?_); simp; done) | ((with_reducible refine cnew1 ?_); simp; done) | (with_reducible refine akeep ?_) | (with_reducible refine dkeep ?_) | ((with_reducible refine skeep ?_ ?_); rotate_left; (first | ((try dsimp only); omega) | (simp; done) | (simp; omega))) | (with_reducible refine bkeep hb3 ?_))))
        clear hK K
        (try simp only [Act.put, List.setIfInBounds_toArray, List.set_cons_zero, List.set_cons_succ])
        refine wpAnyH_ready (rs := [4]) (by kernel_rfl) (by simp) ?_
        refine AllReadyH.cons (o := ⟨_, _, _, _, _, _⟩) rfl (fun K hK => ?_) AllReadyH.nil
        go_simp
        (go_at_call 8; refine (specMergeSets_law z1g z1t S1 z2g z2t S2 _ ((zo1.setIn hs1).below (by (repeat (first | exact Below.refl _ _ | refine Below.setCell ?_ (by first | (simp; done) | (simp; omega) | omega) _ | refine belowN ?_ _ | refine Below.drew ?_ | refine Below.alloc ?_ (by first | (simp; done) | (simp; omega) | omega) _ | refine Below.trans ?_ (Below.mono (by assumption) (by first | (simp; done) | (simp; omega) | omega)))))) zo1.sol ok1 hs1 ((zo2.setIn hs2).below (by (repeat (first | exact Below.refl _ _ | refine Below.setCell ?_ (by first | (simp; done) | (simp; omega) | omega) _ | refine belowN ?_ _ | refine Below.drew ?_ | refine Below.alloc ?_ (by first | (simp; done) | (simp; omega) | omega) _ | refine Below.trans ?_ (Below.mono (by assumption) (by first | (simp; done) | (simp; omega) | omega)))))) zo2.sol ok2 hs2).mono ?_; rintro e w5 ⟨⟨zrg, zrt, rfl, zro⟩, hb3⟩; have s5 : w4.heap.size ≤ w5.heap.size := Nat.le_trans (by first | exact Nat.le_refl _ | (simp; done) | (simp; omega)) hb3.size; obtain ⟨zrg0, zrg1, zrg2, zrg3, zrg4, zrg5, rfl, rfl⟩ := zro.setIn.shape; have KB := KB.below hb3; have lK2 := KB.lt)
        refine hK.out _ _ ?_ (fun hHeld => ?_)
        · (try dsimp only)
          (((try go_split_ands); (try dsimp only); (repeat' apply And.intro)) <;> (repeat (first | with_reducible assumption | ((with_reducible refine cnew0 ?_); simp; done) | ((with_reducible refine cnew1 ?_); simp; done) | (with_reducible refine akeep ?_) | (with_reducible refine dkeep ?_) | ((with_reducible refine skeep ?_ ?_); rotate_left; (first | ((try dsimp only); omega) | (simp; done) | (simp; omega))) | (with_reducible refine bkeep hb3 ?_))))
        clear hK K
        (try simp only [Act.put, List.setIfInBounds_toArray, List.set_cons_zero, List.set_cons_succ])
        refine wpAnyH_take (i := 5) (oi := ⟨_, _, _, _, _, _⟩) (v := ?_) rfl (by kernel_rfl) (by kernel_rfl) (by kernel_rfl) (fun _ _ _ h => h) (Or.inl ⟨by rfl, ?_⟩) (by assumption) ?_
        rotate_left
        · (intro w hSw; (try dsimp only at hSw); go_simp; (try with_reducible rfl))
        (try simp only [Act.put, List.setIfInBounds_toArray, List.set_cons_zero, List.set_cons_succ])
        refine wpAnyH_take (i := 6) (oi := ⟨_, _, _, _, _, _⟩) (v := ?_) rfl (by kernel_rfl) (by kernel_rfl) (by kernel_rfl) (fun _ _ _ h => h) (Or.inl ⟨by rfl, ?_⟩) (by assumption) ?_
        rotate_left
        · (intro w hSw; (try dsimp only at hSw); go_simp; (try with_reducible rfl))
        (try simp only [Act.put, List.setIfInBounds_toArray, List.set_cons_zero, List.set_cons_succ])
        refine wpAnyH_take (i := 7) (oi := ⟨_, _, _, _, _, _⟩) (v := ?_) rfl (by kernel_rfl) (by kernel_rfl) (by kernel_rfl) (fun _ _ _ h => h) (Or.inl ⟨by rfl, ?_⟩) (by assumption) ?_
        rotate_left
        · (intro w hSw; (try dsimp only at hSw); go_simp; (try with_reducible rfl))
        (try simp only [Act.put, List.setIfInBounds_toArray, List.set_cons_zero, List.set_cons_succ])
        obtain ⟨kc0, kc1, kc2, kc3⟩ := KB
        refine wpAnyH_ready (rs := [9]) (by kernel_rfl) (by simp) ?_
        refine AllReadyH.cons (o := ⟨_, _, _, _, _, _⟩) rfl (fun K hK => ?_) AllReadyH.nil
        go_simp
        refine hK.out _ _ ?_ (fun hHeld => ?_)
        · (try dsimp only)
          (((try go_split_ands); (try dsimp only); (repeat' apply And.intro)) <;> (repeat (first | with_reducible assumption | ((with_reducible refine cnew0 ?_); simp; done) | ((with_reducible refine cnew1 ?_); simp; done) | (with_reducible refine akeep ?_) | (with_reducible refine dkeep ?_) | ((with_reducible refine skeep ?_ ?_); rotate_left; (first | ((try dsimp only); omega) | (simp; done) | (simp; omega))) | (with_reducible refine bkeep hb3 ?_))))
        clear hK K
        (try simp only [Act.put, List.setIfInBounds_toArray, List.set_cons_zero, List.set_cons_succ])
        refine wpAnyH_take (i := 10) (oi := ⟨_, _, _, _, _, _⟩) (v := ?_) rfl (by kernel_rfl) (by kernel_rfl) (by kernel_rfl) (fun _ _ _ h => h) (Or.inl ⟨by rfl, ?_⟩) (by assumption) ?_
        rotate_left
        · (intro w hSw; (try dsimp only at hSw); go_simp; (try with_reducible rfl))
        (try simp only [Act.put, List.setIfInBounds_toArray, List.set_cons_zero, List.set_cons_succ])
        refine wpAnyH_done (by kernel_rfl) ?_ _
        have WB : At ((w5.setCell ⟨w3.heap.size, 0, none⟩ (.slice zrg0 zrg1 zrg2)).setCell ⟨w3.heap.size, 1, none⟩ (.slice zrg3 zrg4 zrg5)) (w3.heap.size) (.slice zrg0 zrg1 zrg2) (.slice zrg3 zrg4 zrg5) := ⟨by simp [go_sem, kc0, kc1, kc2, kc3], by simp [go_sem, kc0, kc1, kc2, kc3]⟩
        have VP := ((zro.keep (Within.set (w3.heap.size) (w3.heap.size + 1) w5 (a := ⟨w3.heap.size, 0, none⟩) (Nat.le_refl _) (Nat.lt_succ_self _) (.slice zrg0 zrg1 zrg2)) (.inr (by first | omega | (simp; done) | (simp; omega)))).keep (Within.set (w3.heap.size) (w3.heap.size + 1) (w5.setCell ⟨w3.heap.size, 0, none⟩ (.slice zrg0 zrg1 zrg2)) (a := ⟨w3.heap.size, 1, none⟩) (Nat.le_refl _) (Nat.lt_succ_self _) (.slice zrg3 zrg4 zrg5)) (.inr (by first | omega | (simp; done) | (simp; omega))))
        have qq : Below w2.heap.size w2 ((w5.setCell ⟨w3.heap.size, 0, none⟩ (.slice zrg0 zrg1 zrg2)).setCell ⟨w3.heap.size, 1, none⟩ (.slice zrg3 zrg4 zrg5)) := by (repeat (first | exact Below.refl _ _ | refine Below.setCell ?_ (by first | (simp; done) | (simp; omega) | omega) _ | refine belowN ?_ _ | refine Below.drew ?_ | refine Below.alloc ?_ (by first | (simp; done) | (simp; omega) | omega) _ | refine Below.trans ?_ (Below.mono (by assumption) (by first | (simp; done) | (simp; omega) | omega))))
        generalize hW : ((w5.setCell ⟨w3.heap.size, 0, none⟩ (.slice zrg0 zrg1 zrg2)).setCell ⟨w3.heap.size, 1, none⟩ (.slice zrg3 zrg4 zrg5)) = w6
        generalize hp : w3.heap.size = pw
        exact key z1g z1t z2g z2t zrg0 zrg1 zrg2 zrg3 zrg4 zrg5 _ _ ⟨WB, VP.setIn, qq⟩ w6 pw hW hp
    focus
      go_simp
      refine hK.out _ _ ?_ (fun hHeld => ?_)
      · (try dsimp only)
        (((try go_split_ands); (try dsimp only); (repeat' apply And.intro)) <;> (repeat (first | with_reducible assumption | ((with_reducible refine cnew0 ?_); simp; done) | ((with_reducible refine cnew1 ?_); simp; done) | (with_reducible refine akeep ?_) | (with_reducible refine dkeep ?_) | ((with_reducible refine skeep ?_ ?_); rotate_left; (first | ((try dsimp only); omega) | (simp; done) | (simp; omega))) | (with_reducible refine bkeep hb3 ?_))))
      clear hK K
      (try simp only [Act.put, List.setIfInBounds_toArray, List.set_cons_zero, List.set_cons_succ])
      have KB := Two.new (n := w2.heap.size) (w2.drew) (.slice none 0 0) (.slice none 0 0) 30 (by first | rfl | (simp; done))
      refine wpAnyH_ready (rs := [1]) (by kernel_rfl) (by simp) ?_
      refine AllReadyH.cons (o := ⟨_, _, _, _, _, _⟩) rfl (fun K hK => ?_) AllReadyH.nil
      go_simp
      (go_at_call_of 9 (Value.agg #[vg1, vt1]); refine (toTileSet_any vg1 vt1 S1 _ (H1.out.below (by (repeat (first | exact Below.refl _ _ | refine Below.setCell ?_ (by first | (simp; done) | (simp; omega) | omega) _ | refine belowN ?_ _ | refine Below.drew ?_ | refine Below.alloc ?_ (by first | (simp; done) | (simp; omega) | omega) _ | refine Below.trans ?_ (Below.mono (by assumption) (by first | (simp; done) | (simp; omega) | omega)))))) hs1).mono ?_; rintro e w3 ⟨⟨z1g, z1t, rfl, zo1⟩, hb3⟩; have s3 : w2.heap.size ≤ w3.heap.size := Nat.le_trans (by first | exact Nat.le_refl _ | (simp; done) | (simp; omega)) hb3.size; have KB := KB.below hb3; have lK0 := KB.lt)
      refine hK.out _ _ ?_ (fun hHeld => ?_)
      · (try dsimp only)
        (((try go_split_ands); (try dsimp only); (repeat' apply And.intro)) <;> (repeat (first | with_reducible assumption | ((with_reducible refine cnew0 ?_); simp; done) | ((with_reducible refine cnew1 ?_); simp; done) | (with_reducible refine akeep ?_) | (with_reducible refine dkeep ?_) | ((with_reducible refine skeep ?_ ?_); rotate_left; (first | ((try dsimp only); omega) | (simp; done) | (simp; omega))) | (with_reducible refine bkeep hb3 ?_))))
      clear hK K
      (try simp only [Act.put, List.setIfInBounds_toArray, List.set_cons_zero, List.set_cons_succ])
      refine wpAnyH_ready (rs := [3]) (by kernel_rfl) (by simp) ?_
      refine AllReadyH.cons (o := ⟨_, _, _, _, _, _⟩) rfl (fun K hK => ?_) AllReadyH.nil
      go_simp
      (go_at_call_of 9 (Value.agg #[vg2, vt2]); refine (toTileSet_any vg2 vt2 S2 _ (H2.out.below (by (repeat (first | exact Below.refl _ _ | refine Below.setCell ?_ (by first | (simp; done) | (simp; omega) | omega) _ | refine belowN ?_ _ | refine Below.drew ?_ | refine Below.alloc ?_ (by first | (simp; done) | (simp; omega) | omega) _ | refine Below.trans ?_ (Below.mono (by assumption) (by first | (simp; done) | (simp; omega) | omega)))))) hs2).mono ?_; rintro e w4 ⟨⟨z2g, z2t, rfl, zo2⟩, hb3⟩; have s4 : w3.heap.size ≤ w4.heap.size := Nat.le_trans (by first | exact Nat.le_refl _ | (simp; done) | (simp; omega)) hb3.size; have KB := KB.below hb3; have lK1 := KB.lt)
      refine hK.out _ _ ?_ (fun hHeld => ?_)
      · (try dsimp only)
        (((try go_split_ands); (try dsimp only); (repeat' apply And.intro)) <;> (repeat (first | with_reducible assumption | ((with_reducible refine cnew0 ?_); simp; done) | ((with_reducible refine cnew1 ?_); simp; done) | (with_reducible refine akeep ?_) | (with_reducible refine dkeep ?_) | ((with_reducible refine skeep ?_ ?_); rotate_left; (first | ((try dsimp only); omega) | (simp; done) | (simp; omega))) | (with_reducible refine bkeep hb3 ?_))))
      clear hK K
      (try simp only [Act.put, List.setIfInBounds_toArray, List.set_cons_zero, List.set_cons_succ])
      refine wpAnyH_ready (rs := [4]) (by kernel_rfl) (by simp) ?_
      refine AllReadyH.cons (o := ⟨_, _, _, _, _, _⟩) rfl (fun K hK => ?_) AllReadyH.nil
      go_simp
      (go_at_call 8; refine (specMergeSets_law z1g z1t S1 z2g z2t S2 _ ((zo1.setIn hs1).below (by (repeat (first | exact Below.refl _ _ | refine Below.setCell ?_ (by first | (simp; done) | (simp; omega) | omega) _ | refine belowN ?_ _ | refine Below.drew ?_ | refine Below.alloc ?_ (by first | (simp; done) | (simp; omega) | omega) _ | refine Below.trans ?_ (Below.mono (by assumption) (by first | (simp; done) | (simp; omega) | omega)))))) zo1.sol ok1 hs1 ((zo2.setIn hs2).below (by (repeat (first | exact Below.refl _ _ | refine Below.setCell ?_ (by first | (simp; done) | (simp; omega) | omega) _ | refine belowN ?_ _ | refine Below.drew ?_ | refine Below.alloc ?_ (by first | (simp; done) | (simp; omega) | omega) _ | refine Below.trans ?_ (Below.mono (by assumption) (by first | (simp; done) | (simp; omega) | omega)))))) zo2.sol ok2 hs2).mono ?_; rintro e w5 ⟨⟨zrg, zrt, rfl, zro⟩, hb3⟩; have s5 : w4.heap.size ≤ w5.heap.size := Nat.le_trans (by first | exact Nat.le_refl _ | (simp; done) | (simp; omega)) hb3.size; obtain ⟨zrg0, zrg1, zrg2, zrg3, zrg4, zrg5, rfl, rfl⟩ := zro.setIn.shape; have KB := KB.below hb3; have lK2 := KB.lt)
      refine hK.out _ _ ?_ (fun hHeld => ?_)
      · (try dsimp only)
        (((try go_split_ands); (try dsimp only); (repeat' apply And.intro)) <;> (repeat (first | with_reducible assumption | ((with_reducible refine cnew0 ?_); simp; done) | ((with_reducible refine cnew1 ?_); simp; done) | (with_reducible refine akeep ?_) | (with_reducible refine dkeep ?_) | ((with_reducible refine skeep ?_ ?_); rotate_left; (first | ((try dsimp only); omega) | (simp; done) | (simp; omega))) | (with_reducible refine bkeep hb3 ?_))))
      clear hK K
      (try simp only [Act.put, List.setIfInBounds_toArray, List.set_cons_zero, List.set_cons_succ])
      refine wpAnyH_take (i := 5) (oi := ⟨_, _, _, _, _, _⟩) (v := ?_) rfl (by kernel_rfl) (by kernel_rfl) (by kernel_rfl) (fun _ _ _ h => h) (Or.inl ⟨by rfl, ?_⟩) (by assumption) ?_
      rotate_left
      · (intro w hSw; (try dsimp only at hSw); go_simp; (try with_reducible rfl))
      (try simp only [Act.put, List.setIfInBounds_toArray, List.set_cons_zero, List.set_cons_succ])
      refine wpAnyH_take (i := 6) (oi := ⟨_, _, _, _, _, _⟩) (v := ?_) rfl (by kernel_rfl) (by kernel_rfl) (by kernel_rfl) (fun _ _ _ h => h) (Or.inl ⟨by rfl, ?_⟩) (by assumption) ?_
      rotate_left
      · (intro w hSw; (try dsimp only at hSw); go_simp; (try with_reducible rfl))
      (try simp only [Act.put, List.setIfInBounds_toArray, List.set_cons_zero, List.set_cons_succ])
      refine wpAnyH_take (i := 7) (oi := ⟨_, _, _, _, _, _⟩) (v := ?_) rfl (by kernel_rfl) (by kernel_rfl) (by kernel_rfl) (fun _ _ _ h => h) (Or.inl ⟨by rfl, ?_⟩) (by assumption) ?_
      rotate_left
      · (intro w hSw; (try dsimp only at hSw); go_simp; (try with_reducible rfl))
      (try simp only [Act.put, List.setIfInBounds_toArray, List.set_cons_zero, List.set_cons_succ])
      obtain ⟨kc0, kc1, kc2, kc3⟩ := KB
      refine wpAnyH_ready (rs := [9]) (by kernel_rfl) (by simp) ?_
      refine AllReadyH.cons (o := ⟨_, _, _, _, _, _⟩) rfl (fun K hK => ?_) AllReadyH.nil
      go_simp
      refine hK.out _ _ ?_ (fun hHeld => ?_)
      · (try dsimp only)
        (((try go_split_ands); (try dsimp only); (repeat' apply And.intro)) <;> (repeat (first | with_reducible assumption | ((with_reducible refine cnew0 ?_); simp; done) | ((with_reducible refine cnew1 ?_); simp; done) | (with_reducible refine akeep ?_) | (with_reducible refine dkeep ?_) | ((with_reducible refine skeep ?_ ?_); rotate_left; (first | ((try dsimp only); omega) | (simp; done) | (simp; omega))) | (with_reducible refine bkeep hb3 ?_))))
      clear hK K
      (try simp only [Act.put, List.setIfInBounds_toArray, List.set_cons_zero, List.set_cons_succ])
      refine wpAnyH_take (i := 10) (oi := ⟨_, _, _, _, _, _⟩) (v := ?_) rfl (by kernel_rfl) (by kernel_rfl) (by kernel_rfl) (fun _ _ _ h => h) (Or.inl ⟨by rfl, ?_⟩) (by assumption) ?_
      rotate_left
      · (intro w hSw; (try dsimp only at hSw); go_simp; (try with_reducible rfl))
      (try simp only [Act.put, List.setIfInBounds_toArray, List.set_cons_zero, List.set_cons_succ])
      refine wpAnyH_done (by kernel_rfl) ?_ _
      have WB : At ((w5.setCell ⟨w2.heap.size, 0, none⟩ (.slice zrg0 zrg1 zrg2)).setCell ⟨w2.heap.size, 1, none⟩ (.slice zrg3 zrg4 zrg5)) (w2.heap.size) (.slice zrg0 zrg1 zrg2) (.slice zrg3 zrg4 zrg5) := ⟨by simp [go_sem, kc0, kc1, kc2, kc3], by simp [go_sem, kc0, kc1, kc2, kc3]⟩
      have VP := ((zro.keep (Within.set (w2.heap.size) (w2.heap.size + 1) w5 (a := ⟨w2.heap.size, 0, none⟩) (Nat.le_refl _) (Nat.lt_succ_self _) (.slice zrg0 zrg1 zrg2)) (.inr (by first | omega | (simp; done) | (simp; omega)))).keep (Within.set (w2.heap.size) (w2.heap.size + 1) (w5.setCell ⟨w2.heap.size, 0, none⟩ (.slice zrg0 zrg1 zrg2)) (a := ⟨w2.heap.size, 1, none⟩) (Nat.le_refl _) (Nat.lt_succ_self _) (.slice zrg3 zrg4 zrg5)) (.inr (by first | omega | (simp; done) | (simp; omega))))
      have qq : Below w2.heap.size w2 ((w5.setCell ⟨w2.heap.size, 0, none⟩ (.slice zrg0 zrg1 zrg2)).setCell ⟨w2.heap.size, 1, none⟩ (.slice zrg3 zrg4 zrg5)) := by (repeat (first | exact Below.refl _ _ | refine Below.setCell ?_ (by first | (simp; done) | (simp; omega) | omega) _ | refine belowN ?_ _ | refine Below.drew ?_ | refine Below.alloc ?_ (by first | (simp; done) | (simp; omega) | omega) _ | refine Below.trans ?_ (Below.mono (by assumption) (by first | (simp; done) | (simp; omega) | omega))))
      generalize hW : ((w5.setCell ⟨w2.heap.size, 0, none⟩ (.slice zrg0 zrg1 zrg2)).setCell ⟨w2.heap.size, 1, none⟩ (.slice zrg3 zrg4 zrg5)) = w6
      generalize hp : w2.heap.size = pw
      exact key z1g z1t z2g z2t zrg0 zrg1 zrg2 zrg3 zrg4 zrg5 _ _ ⟨WB, VP.setIn, qq⟩ w6 pw hW hp
  rintro z1g z1t z2g z2t zrg0 zrg1 zrg2 zrg3 zrg4 zrg5 w6 pw6 ⟨WB, VP, q6⟩
  have sq6 : w2.heap.size ≤ w6.heap.size := q6.size
  have lpw6 : pw6 < w6.heap.size := WB.lt
  have B6 : Below w.heap.size w w6 := B2.trans (q6.mono (by omega))
  have A1_6 := Lib.hid (A1_2.out.below q6)
  have A2_6 := Lib.hid (A2_2.out.below q6)
  clear kA10 kA11 lA1 kA20 kA21 lA2
  clear q6
  have VS := Lib.hid VP
  clear VP
  have W0_6 := Lib.hid WB
  clear WB
  obtain ⟨kA10, kA11⟩ := A1_6.out
  have lA1 := A1_6.out.lt
  go_wp2_with fail
  refine (toTileSet_any vg1 vt1 S1 _ (H1.out.below (by (repeat (first | exact Below.refl _ _ | refine Below.setCell ?_ (by first | (simp; done) | (simp; omega) | omega) _ | refine belowN ?_ _ | refine Below.drew ?_ | refine Below.alloc ?_ (by first | (simp; done) | (simp; omega) | omega) _ | refine Below.trans ?_ (Below.mono (by assumption) (by first | (simp; done) | (simp; omega) | omega)))))) hs1).mono ?_
  rintro e w7 ⟨⟨x1_g, x1_t, rfl, own⟩, hb⟩
  have q7 : Below w6.heap.size w6 w7 := by (repeat (first | exact Below.refl _ _ | refine Below.setCell ?_ (by first | (simp; done) | (simp; omega) | omega) _ | refine belowN ?_ _ | refine Below.drew ?_ | refine Below.alloc ?_ (by first | (simp; done) | (simp; omega) | omega) _ | refine Below.trans ?_ (Below.mono (by assumption) (by first | (simp; done) | (simp; omega) | omega))))
  have s7 : w6.heap.size ≤ w7.heap.size := q7.size
  have B7 : Below w.heap.size w w7 := B6.trans (q7.mono (by omega))
  have C7 := Lib.hid q7
  have A1_7 := Lib.hid (A1_6.out.below q7)
  have A2_7 := Lib.hid (A2_6.out.below q7)
  have W0_7 := Lib.hid (W0_6.out.below q7)
  have SL1 := own.sol
  have X1_7 := Lib.hid (OwnSet.mono (lo' := w6.heap.size) (hi' := w7.heap.size) (own.own hs1) (by first | (simp; done) | (simp; omega)) (Nat.le_refl _))
  clear hb q7 own kA10 kA11 lA1
  obtain ⟨x1_g0, x1_g1, x1_g2, x1_g3, x1_g4, x1_g5, rfl, rfl⟩ := X1_7.out.setIn.shape
  obtain ⟨kA20, kA21⟩ := A2_7.out
  have lA2 := A2_7.out.lt
  go_wp2_with fail
  refine (toTileSet_any vg2 vt2 S2 _ (H2.out.below (by (repeat (first | exact Below.refl _ _ | refine Below.setCell ?_ (by first | (simp; done) | (simp; omega) | omega) _ | refine belowN ?_ _ | refine Below.drew ?_ | refine Below.alloc ?_ (by first | (simp; done) | (simp; omega) | omega) _ | refine Below.trans ?_ (Below.mono (by assumption) (by first | (simp; done) | (simp; omega) | omega)))))) hs2).mono ?_
  rintro e w8 ⟨⟨x2_g, x2_t, rfl, own⟩, hb⟩
  have q8 : Below w7.heap.size w7 w8 := by (repeat (first | exact Below.refl _ _ | refine Below.setCell ?_ (by first | (simp; done) | (simp; omega) | omega) _ | refine belowN ?_ _ | refine Below.drew ?_ | refine Below.alloc ?_ (by first | (simp; done) | (simp; omega) | omega) _ | refine Below.trans ?_ (Below.mono (by assumption) (by first | (simp; done) | (simp; omega) | omega))))
  have s8 : w7.heap.size ≤ w8.heap.size := q8.size
  have B8 : Below w.heap.size w w8 := B7.trans (q8.mono (by omega))
  have C8 := Lib.hid (C7.out.trans (q8.mono (by omega)))
  have A1_8 := Lib.hid (A1_7.out.below q8)
  have A2_8 := Lib.hid (A2_7.out.below q8)
  have W0_8 := Lib.hid (W0_7.out.below q8)
  have X1_8 := Lib.hid (X1_7.out.below q8)
  have Y1_8 := Lib.hid (At.below (p := w7.heap.size) (vg := (.slice x1_g0 x1_g1 x1_g2)) (vt := (.slice x1_g3 x1_g4 x1_g5)) (by exact ⟨by simp [go_sem], by simp [go_sem]⟩) hb)
  have SL2 := own.sol
  have X2_8 := Lib.hid (OwnSet.mono (lo' := w7.heap.size + 1) (hi' := w8.heap.size) (own.own hs2) (by first | (simp; done) | (simp; omega)) (Nat.le_refl _))
  clear hb q8 own kA20 kA21 lA2
  obtain ⟨x2_g0, x2_g1, x2_g2, x2_g3, x2_g4, x2_g5, rfl, rfl⟩ := X2_8.out.setIn.shape
  obtain ⟨kY10, kY11⟩ := Y1_8.out
  have lY1 := Y1_8.out.lt
  go_wp2_with fail
  refine (implMergeSets_law (.slice x1_g0 x1_g1 x1_g2) (.slice x1_g3 x1_g4 x1_g5) S1 (.slice x2_g0 x2_g1 x2_g2) (.slice x2_g3 x2_g4 x2_g5) S2 _ (X1_8.out.setIn.below (by (repeat (first | exact Below.refl _ _ | refine Below.setCell ?_ (by first | (simp; done) | (simp; omega) | omega) _ | refine belowN ?_ _ | refine Below.drew ?_ | refine Below.alloc ?_ (by first | (simp; done) | (simp; omega) | omega) _ | refine Below.trans ?_ (Below.mono (by assumption) (by first | (simp; done) | (simp; omega) | omega)))))) SL1 ok1 hs1 (X2_8.out.setIn.below (by (repeat (first | exact Below.refl _ _ | refine Below.setCell ?_ (by first | (simp; done) | (simp; omega) | omega) _ | refine belowN ?_ _ | refine Below.drew ?_ | refine Below.alloc ?_ (by first | (simp; done) | (simp; omega) | omega) _ | refine Below.trans ?_ (Below.mono (by assumption) (by first | (simp; done) | (simp; omega) | omega)))))) SL2 ok2 hs2).mono ?_
  rintro e w9 ⟨⟨grg, grt, rfl, gro⟩, hb⟩
  have q9 : Below w8.heap.size w8 w9 := by (repeat (first | exact Below.refl _ _ | refine Below.setCell ?_ (by first | (simp; done) | (simp; omega) | omega) _ | refine belowN ?_ _ | refine Below.drew ?_ | refine Below.alloc ?_ (by first | (simp; done) | (simp; omega) | omega) _ | refine Below.trans ?_ (Below.mono (by assumption) (by first | (simp; done) | (simp; omega) | omega))))
  have s9 : w8.heap.size ≤ w9.heap.size := q9.size
  have B9 : Below w.heap.size w w9 := B8.trans (q9.mono (by omega))
  have C9 := Lib.hid (C8.out.trans (q9.mono (by omega)))
  have A1_9 := Lib.hid (A1_8.out.below q9)
  have A2_9 := Lib.hid (A2_8.out.below q9)
  have W0_9 := Lib.hid (W0_8.out.below q9)
  have X1_9 := Lib.hid (X1_8.out.below q9)
  have Y1_9 := Lib.hid (Y1_8.out.below q9)
  have X2_9 := Lib.hid (X2_8.out.below q9)
  have Y2_9 := Lib.hid (At.below (p := w8.heap.size) (vg := (.slice x2_g0 x2_g1 x2_g2)) (vt := (.slice x2_g3 x2_g4 x2_g5)) (by exact ⟨by simp [go_sem], by simp [go_sem]⟩) hb)
  clear hb q9 kY10 kY11 lY1
  obtain ⟨grg0, grg1, grg2, grg3, grg4, grg5, rfl, rfl⟩ := gro.setIn.shape
  have U_9 := Lib.hid (OwnSet.mono (lo' := w8.heap.size + 1) (hi' := w9.heap.size) gro (by first | omega | (simp; done) | (simp; omega)) (Nat.le_refl _))
  clear gro
  have hsR := smallMergeSets hs1 hs2
  obtain ⟨kW00, kW01⟩ := W0_9.out
  have lW0 := W0_9.out.lt
  go_wp2_with fail
  refine (eqTileSet_yes _ _ _ _ (meS S1 S2) _ (U_9.out.setIn.below (by (repeat (first | exact Below.refl _ _ | refine Below.setCell ?_ (by first | (simp; done) | (simp; omega) | omega) _ | refine belowN ?_ _ | refine Below.drew ?_ | refine Below.alloc ?_ (by first | (simp; done) | (simp; omega) | omega) _ | refine Below.trans ?_ (Below.mono (by assumption) (by first | (simp; done) | (simp; omega) | omega)))))) ((VS.out.below C9.out).below (by (repeat (first | exact Below.refl _ _ | refine Below.setCell ?_ (by first | (simp; done) | (simp; omega) | omega) _ | refine belowN ?_ _ | refine Below.drew ?_ | refine Below.alloc ?_ (by first | (simp; done) | (simp; omega) | omega) _ | refine Below.trans ?_ (Below.mono (by assumption) (by first | (simp; done) | (simp; omega) | omega))))))).mono ?_
  rintro e w10 ⟨rfl, hb⟩
  have q10 : Below w9.heap.size w9 w10 := by (repeat (first | exact Below.refl _ _ | refine Below.setCell ?_ (by first | (simp; done) | (simp; omega) | omega) _ | refine belowN ?_ _ | refine Below.drew ?_ | refine Below.alloc ?_ (by first | (simp; done) | (simp; omega) | omega) _ | refine Below.trans ?_ (Below.mono (by assumption) (by first | (simp; done) | (simp; omega) | omega))))
  have s10 : w9.heap.size ≤ w10.heap.size := q10.size
  have B10 : Below w.heap.size w w10 := B9.trans (q10.mono (by omega))
  have C10 := Lib.hid (C9.out.trans (q10.mono (by omega)))
  have A1_10 := Lib.hid (A1_9.out.below q10)
  have A2_10 := Lib.hid (A2_9.out.below q10)
  have W0_10 := Lib.hid (W0_9.out.below q10)
  have X1_10 := Lib.hid (X1_9.out.below q10)
  have Y1_10 := Lib.hid (Y1_9.out.below q10)
  have X2_10 := Lib.hid (X2_9.out.below q10)
  have Y2_10 := Lib.hid (Y2_9.out.below q10)
  have U_10 := Lib.hid (U_9.out.below q10)
  have Z0_10 := Lib.hid (At.below (p := w9.heap.size) (vg := (.slice grg0 grg1 grg2)) (vt := (.slice grg3 grg4 grg5)) (by exact ⟨by simp [go_sem], by simp [go_sem]⟩) hb)
  clear hb q10 kW00 kW01 lW0
  obtain ⟨kA10, kA11⟩ := A1_10.out
  have lA1 := A1_10.out.lt
  obtain ⟨kY10, kY11⟩ := Y1_10.out
  have lY1 := Y1_10.out.lt
  go_wp2_with fail
  go_region_held3 (fun w' => w'.cell? ⟨w.heap.size, 0, none⟩ = some (vg1) ∧ w'.cell? ⟨w.heap.size, 1, none⟩ = some (vt1) ∧ w'.cell? ⟨w7.heap.size, 0, none⟩ = some (.slice x1_g0 x1_g1 x1_g2) ∧ w'.cell? ⟨w7.heap.size, 1, none⟩ = some (.slice x1_g3 x1_g4 x1_g5)) ((((try go_split_ands); (try dsimp only); (repeat' apply And.intro)) <;> (repeat (first | with_reducible assumption | ((with_reducible refine cnew0 ?_); simp; done) | ((with_reducible refine cnew1 ?_); simp; done) | (with_reducible refine akeep ?_) | (with_reducible refine dkeep ?_) | ((with_reducible refine skeep ?_ ?_); rotate_left; (first | ((try dsimp only); omega) | (simp; done) | (simp; omega))) | (with_reducible refine bkeep hb3 ?_)))))
    (first
      | (go_at_call 9; refine (toTileSet_any vg1 vt1 S1 _ (H1.out.below (by (repeat (first | exact Below.refl _ _ | refine Below.setCell ?_ (by first | (simp; done) | (simp; omega) | omega) _ | refine belowN ?_ _ | refine Below.drew ?_ | refine Below.alloc ?_ (by first | (simp; done) | (simp; omega) | omega) _ | refine Below.trans ?_ (Below.mono (by assumption) (by first | (simp; done) | (simp; omega) | omega)))))) hs1).mono ?_; rintro e w11 ⟨⟨u1g, u1t, rfl, own⟩, hb3⟩; have s11 : w10.heap.size ≤ w11.heap.size := Nat.le_trans (by first | exact Nat.le_refl _ | (simp; done) | (simp; omega)) hb3.size)
      | (go_at_call 11; refine (eqTileSet_yes _ _ _ _ S1 _ (X1_10.out.setIn.below (by (repeat (first | exact Below.refl _ _ | refine Below.setCell ?_ (by first | (simp; done) | (simp; omega) | omega) _ | refine belowN ?_ _ | refine Below.drew ?_ | refine Below.alloc ?_ (by first | (simp; done) | (simp; omega) | omega) _ | refine Below.trans ?_ (Below.mono (by assumption) (by first | (simp; done) | (simp; omega) | omega)))))) ((own.setIn hs1).below (by (repeat (first | exact Below.refl _ _ | refine Below.setCell ?_ (by first | (simp; done) | (simp; omega) | omega) _ | refine belowN ?_ _ | refine Below.drew ?_ | refine Below.alloc ?_ (by first | (simp; done) | (simp; omega) | omega) _ | refine Below.trans ?_ (Below.mono (by assumption) (by first | (simp; done) | (simp; omega) | omega))))))).mono ?_; rintro e w12 ⟨rfl, hb3⟩; have s12 : w11.heap.size ≤ w12.heap.size := Nat.le_trans (by first | exact Nat.le_refl _ | (simp; done) | (simp; omega)) hb3.size))
  have q12 : Below w10.heap.size w10 w12 := by (repeat (first | exact Below.refl _ _ | refine Below.setCell ?_ (by first | (simp; done) | (simp; omega) | omega) _ | refine belowN ?_ _ | refine Below.drew ?_ | refine Below.alloc ?_ (by first | (simp; done) | (simp; omega) | omega) _ | refine Below.trans ?_ (Below.mono (by assumption) (by first | (simp; done) | (simp; omega) | omega))))
  have B12 : Below w.heap.size w w12 := B10.trans (q12.mono (by omega))
  have C12 := Lib.hid (C10.out.trans (q12.mono (by omega)))
  have A1_12 := Lib.hid (A1_10.out.below q12)
  have A2_12 := Lib.hid (A2_10.out.below q12)
  have W0_12 := Lib.hid (W0_10.out.below q12)
  have X1_12 := Lib.hid (X1_10.out.below q12)
  have Y1_12 := Lib.hid (Y1_10.out.below q12)
  have X2_12 := Lib.hid (X2_10.out.below q12)
  have Y2_12 := Lib.hid (Y2_10.out.below q12)
  have U_12 := Lib.hid (U_10.out.below q12)
  have Z0_12 := Lib.hid (Z0_10.out.below q12)
  clear hb3 q12 own kA10 kA11 lA1 kY10 kY11 lY1
  obtain ⟨kA20, kA21⟩ := A2_12.out
  have lA2 := A2_12.out.lt
  obtain ⟨kY20, kY21⟩ := Y2_12.out
  have lY2 := Y2_12.out.lt
  go_wp2_with fail
  go_region_held3 (fun w' => w'.cell? ⟨w.heap.size + 1, 0, none⟩ = some (vg2) ∧ w'.cell? ⟨w.heap.size + 1, 1, none⟩ = some (vt2) ∧ w'.cell? ⟨w8.heap.size, 0, none⟩ = some (.slice x2_g0 x2_g1 x2_g2) ∧ w'.cell? ⟨w8.heap.size, 1, none⟩ = some (.slice x2_g3 x2_g4 x2_g5)) ((((try go_split_ands); (try dsimp only); (repeat' apply And.intro)) <;> (repeat (first | with_reducible assumption | ((with_reducible refine cnew0 ?_); simp; done) | ((with_reducible refine cnew1 ?_); simp; done) | (with_reducible refine akeep ?_) | (with_reducible refine dkeep ?_) | ((with_reducible refine skeep ?_ ?_); rotate_left; (first | ((try dsimp only); omega) | (simp; done) | (simp; omega))) | (with_reducible refine bkeep hb3 ?_)))))
    (first
      | (go_at_call 9; refine (toTileSet_any vg2 vt2 S2 _ (H2.out.below (by (repeat (first | exact Below.refl _ _ | refine Below.setCell ?_ (by first | (simp; done) | (simp; omega) | omega) _ | refine belowN ?_ _ | refine Below.drew ?_ | refine Below.alloc ?_ (by first | (simp; done) | (simp; omega) | omega) _ | refine Below.trans ?_ (Below.mono (by assumption) (by first | (simp; done) | (simp; omega) | omega)))))) hs2).mono ?_; rintro e w13 ⟨⟨u2g, u2t, rfl, own⟩, hb3⟩; have s13 : w12.heap.size ≤ w13.heap.size := Nat.le_trans (by first | exact Nat.le_refl _ | (simp; done) | (simp; omega)) hb3.size)
      | (go_at_call 11; refine (eqTileSet_yes _ _ _ _ S2 _ (X2_12.out.setIn.below (by (repeat (first | exact Below.refl _ _ | refine Below.setCell ?_ (by first | (simp; done) | (simp; omega) | omega) _ | refine belowN ?_ _ | refine Below.drew ?_ | refine Below.alloc ?_ (by first | (simp; done) | (simp; omega) | omega) _ | refine Below.trans ?_ (Below.mono (by assumption) (by first | (simp; done) | (simp; omega) | omega)))))) ((own.setIn hs2).below (by (repeat (first | exact Below.refl _ _ | refine Below.setCell ?_ (by first | (simp; done) | (simp; omega) | omega) _ | refine belowN ?_ _ | refine Below.drew ?_ | refine Below.alloc ?_ (by first | (simp; done) | (simp; omega) | omega) _ | refine Below.trans ?_ (Below.mono (by assumption) (by first | (simp; done) | (simp; omega) | omega))))))).mono ?_; rintro e w14 ⟨rfl, hb3⟩; have s14 : w13.heap.size ≤ w14.heap.size := Nat.le_trans (by first | exact Nat.le_refl _ | (simp; done) | (simp; omega)) hb3.size))
  have q14 : Below w12.heap.size w12 w14 := by (repeat (first | exact Below.refl _ _ | refine Below.setCell ?_ (by first | (simp; done) | (simp; omega) | omega) _ | refine belowN ?_ _ | refine Below.drew ?_ | refine Below.alloc ?_ (by first | (simp; done) | (simp; omega) | omega) _ | refine Below.trans ?_ (Below.mono (by assumption) (by first | (simp; done) | (simp; omega) | omega))))
  have B14 : Below w.heap.size w w14 := B12.trans (q14.mono (by omega))
  have C14 := Lib.hid (C12.out.trans (q14.mono (by omega)))
  have A1_14 := Lib.hid (A1_12.out.below q14)
  have A2_14 := Lib.hid (A2_12.out.below q14)
  have W0_14 := Lib.hid (W0_12.out.below q14)
  have X1_14 := Lib.hid (X1_12.out.below q14)
  have Y1_14 := Lib.hid (Y1_12.out.below q14)
  have X2_14 := Lib.hid (X2_12.out.below q14)
  have Y2_14 := Lib.hid (Y2_12.out.below q14)
  have U_14 := Lib.hid (U_12.out.below q14)
  have Z0_14 := Lib.hid (Z0_12.out.below q14)
  clear hb3 q14 own kA20 kA21 lA2 kY20 kY21 lY2
  clear SL1 SL2
  obtain ⟨kY10, kY11⟩ := Y1_14.out
  have lY1 := Y1_14.out.lt
  go_wp2_with fail
  refine (markTileSet_one (w6.heap.size) w7.heap.size _ _ S1 _ X1_14.out hs1 (by omega)).mono ?_
  rintro e w15 ⟨rfl, -, hw⟩
  have s15 : w14.heap.size ≤ w15.heap.size := hw.size
  have B15 : Below w.heap.size w w15 := B14.trans (hw.belowK (by omega) (by omega))
  have C15 := Lib.hid (C14.out.trans (hw.belowK (by omega) (by omega)))
  have A1_15 := Lib.hid (A1_14.out.keep hw (by omega))
  have A2_15 := Lib.hid (A2_14.out.keep hw (by omega))
  have W0_15 := Lib.hid (W0_14.out.keep hw (by omega))
  have Y1_15 := Lib.hid (Y1_14.out.keep hw (by omega))
  have X2_15 := Lib.hid (X2_14.out.keep hw (by omega))
  have Y2_15 := Lib.hid (Y2_14.out.keep hw (by omega))
  have U_15 := Lib.hid (U_14.out.keep hw (by omega))
  have Z0_15 := Lib.hid (Z0_14.out.keep hw (by omega))
  clear hw kY10 kY11 lY1
  have hk2 : 1 ≤ (mEnd S1 1) ∧ (mEnd S1 1) ≤ 17592186044416 := by have := mEnd_le S1 1 hs1; omega
  obtain ⟨kY20, kY21⟩ := Y2_15.out
  have lY2 := Y2_15.out.lt
  go_wp2_with fail
  refine (markTileSet_any (w7.heap.size + 1) w8.heap.size _ _ S2 (mEnd S1 1) _ X2_15.out hs2 (by have := hk2; omega) (by have := hk2; omega) (by omega)).mono ?_
  rintro e w16 ⟨rfl, -, hw⟩
  have s16 : w15.heap.size ≤ w16.heap.size := hw.size
  have B16 : Below w.heap.size w w16 := B15.trans (hw.belowK (by omega) (by omega))
  have C16 := Lib.hid (C15.out.trans (hw.belowK (by omega) (by omega)))
  have A1_16 := Lib.hid (A1_15.out.keep hw (by omega))
  have A2_16 := Lib.hid (A2_15.out.keep hw (by omega))
  have W0_16 := Lib.hid (W0_15.out.keep hw (by omega))
  have Y2_16 := Lib.hid (Y2_15.out.keep hw (by omega))
  have U_16 := Lib.hid (U_15.out.keep hw (by omega))
  have Z0_16 := Lib.hid (Z0_15.out.keep hw (by omega))
  clear hw kY20 kY21 lY2
  have bn : decide ((((mEnd S2 (mEnd S1 1)) : Nat) : Int) < 0) = false := by simp
  obtain ⟨kZ00, kZ01⟩ := Z0_16.out
  have lZ0 := Z0_16.out.lt
  obtain ⟨kW00, kW01⟩ := W0_16.out
  have lW0 := W0_16.out.lt
  go_wp2_with fail
  refine (eqTileSet_yes _ _ _ _ (meS S1 S2) _ (U_16.out.setIn.below (by (repeat (first | exact Below.refl _ _ | refine Below.setCell ?_ (by first | (simp; done) | (simp; omega) | omega) _ | refine belowN ?_ _ | refine Below.drew ?_ | refine Below.alloc ?_ (by first | (simp; done) | (simp; omega) | omega) _ | refine Below.trans ?_ (Below.mono (by assumption) (by first | (simp; done) | (simp; omega) | omega)))))) ((VS.out.below C16.out).below (by (repeat (first | exact Below.refl _ _ | refine Below.setCell ?_ (by first | (simp; done) | (simp; omega) | omega) _ | refine belowN ?_ _ | refine Below.drew ?_ | refine Below.alloc ?_ (by first | (simp; done) | (simp; omega) | omega) _ | refine Below.trans ?_ (Below.mono (by assumption) (by first | (simp; done) | (simp; omega) | omega))))))).mono ?_
  rintro e w17 ⟨rfl, hb⟩
  have q17 : Below w16.heap.size w16 w17 := by (repeat (first | exact Below.refl _ _ | refine Below.setCell ?_ (by first | (simp; done) | (simp; omega) | omega) _ | refine belowN ?_ _ | refine Below.drew ?_ | refine Below.alloc ?_ (by first | (simp; done) | (simp; omega) | omega) _ | refine Below.trans ?_ (Below.mono (by assumption) (by first | (simp; done) | (simp; omega) | omega))))
  have s17 : w16.heap.size ≤ w17.heap.size := q17.size
  have B17 : Below w.heap.size w w17 := B16.trans (q17.mono (by omega))
  have C17 := Lib.hid (C16.out.trans (q17.mono (by omega)))
  have A1_17 := Lib.hid (A1_16.out.below q17)
  have A2_17 := Lib.hid (A2_16.out.below q17)
  have W0_17 := Lib.hid (W0_16.out.below q17)
  have U_17 := Lib.hid (U_16.out.below q17)
  have Z0_17 := Lib.hid (Z0_16.out.below q17)
  clear hb q17 kZ00 kZ01 lZ0 kW00 kW01 lW0
  obtain ⟨kZ00, kZ01⟩ := Z0_17.out
  have lZ0 := Z0_17.out.lt
  go_wp2_with fail
  refine (markTileSet_one (w8.heap.size + 1) w9.heap.size _ _ (meS S1 S2) _ U_17.out hsR (by omega)).mono ?_
  rintro e w18 ⟨rfl, hu, hw⟩
  have s18 : w17.heap.size ≤ w18.heap.size := hw.size
  have B18 : Below w.heap.size w w18 := B17.trans (hw.belowK (by omega) (by omega))
  have C18 := Lib.hid (C17.out.trans (hw.belowK (by omega) (by omega)))
  have A1_18 := Lib.hid (A1_17.out.keep hw (by omega))
  have A2_18 := Lib.hid (A2_17.out.keep hw (by omega))
  have W0_18 := Lib.hid (W0_17.out.keep hw (by omega))
  have Z0_18 := Lib.hid (Z0_17.out.keep hw (by omega))
  have U_18 := Lib.hid hu.setIn
  clear hw hu kZ00 kZ01 lZ0
  have bi : decide (((mEnd (meS S1 S2) 1 : Nat) : Int) < 0) = false := by simp
  obtain ⟨kZ00, kZ01⟩ := Z0_18.out
  have lZ0 := Z0_18.out.lt
  go_wp2_with fail
  refine (heldTileSet_one _ _ (meS S1 S2) _ U_18.out hsR).mono ?_
  rintro e w19 ⟨rfl, hb⟩
  have q19 : Below w18.heap.size w18 w19 := by (repeat (first | exact Below.refl _ _ | refine Below.setCell ?_ (by first | (simp; done) | (simp; omega) | omega) _ | refine belowN ?_ _ | refine Below.drew ?_ | refine Below.alloc ?_ (by first | (simp; done) | (simp; omega) | omega) _ | refine Below.trans ?_ (Below.mono (by assumption) (by first | (simp; done) | (simp; omega) | omega))))
  have s19 : w18.heap.size ≤ w19.heap.size := q19.size
  have B19 : Below w.heap.size w w19 := B18.trans (q19.mono (by omega))
  have C19 := Lib.hid (C18.out.trans (q19.mono (by omega)))
  have A1_19 := Lib.hid (A1_18.out.below q19)
  have A2_19 := Lib.hid (A2_18.out.below q19)
  have W0_19 := Lib.hid (W0_18.out.below q19)
  have U_19 := Lib.hid (U_18.out.below q19)
  have Z0_19 := Lib.hid (Z0_18.out.below q19)
  clear hb q19 kZ00 kZ01 lZ0
  obtain ⟨kA10, kA11⟩ := A1_19.out
  have lA1 := A1_19.out.lt
  obtain ⟨kA20, kA21⟩ := A2_19.out
  have lA2 := A2_19.out.lt
  go_wp2_with fail
  apply ot_FnExactMergeSets_h (fun (h1g : Value) (h1t : Value) (h2g : Value) (h2t : Value) (hrg0 : Option Addr) (hrg1 : Nat) (hrg2 : Nat) (hrg3 : Option Addr) (hrg4 : Nat) (hrg5 : Nat) (W : World) (pw : Nat) => At W pw (.slice hrg0 hrg1 hrg2) (.slice hrg3 hrg4 hrg5) ∧ SetIn W (.slice hrg0 hrg1 hrg2) (.slice hrg3 hrg4 hrg5) (meS S1 S2) ∧ Below w19.heap.size w19 W)
  focus
    intro key
    refine wp_region_held_drew (S := (fun w' => w'.cell? ⟨w.heap.size, 0, none⟩ = some (vg1) ∧ w'.cell? ⟨w.heap.size, 1, none⟩ = some (vt1) ∧ w'.cell? ⟨w.heap.size + 1, 0, none⟩ = some (vg2) ∧ w'.cell? ⟨w.heap.size + 1, 1, none⟩ = some (vt2))) (by kernel_rfl) ?_ (fun hHeld => ?_)
    · (try dsimp only)
      (((try go_split_ands); (try dsimp only); (repeat' apply And.intro)) <;> (repeat (first | with_reducible assumption | ((with_reducible refine cnew0 ?_); simp; done) | ((with_reducible refine cnew1 ?_); simp; done) | (with_reducible refine akeep ?_) | (with_reducible refine dkeep ?_) | ((with_reducible refine skeep ?_ ?_); rotate_left; (first | ((try dsimp only); omega) | (simp; done) | (simp; omega))) | (with_reducible refine bkeep hb3 ?_))))
    refine wpAnyH_take (i := 0) (oi := ⟨_, _, _, _, _, _⟩) (v := ?_) rfl (by kernel_rfl) (by kernel_rfl) (by kernel_rfl) (fun _ _ _ h => h) (Or.inl ⟨by rfl, ?_⟩) (by assumption) ?_
    rotate_left
    · (intro w hSw; (try dsimp only at hSw); go_simp; (try with_reducible rfl))
    (try simp only [Act.put, List.setIfInBounds_toArray, List.set_cons_zero, List.set_cons_succ])
    refine wpAnyH_take (i := 2) (oi := ⟨_, _, _, _, _, _⟩) (v := ?_) rfl (by kernel_rfl) (by kernel_rfl) (by kernel_rfl) (fun _ _ _ h => h) (Or.inl ⟨by rfl, ?_⟩) (by assumption) ?_
    rotate_left
    · (intro w hSw; (try dsimp only at hSw); go_simp; (try with_reducible rfl))
    (try simp only [Act.put, List.setIfInBounds_toArray, List.set_cons_zero, List.set_cons_succ])
    refine wpAnyH_ready (rs := [1, 8]) (by kernel_rfl) (by simp) ?_
    refine AllReadyH.cons (o := ⟨_, _, _, _, _, _⟩) rfl (fun K hK => ?_) (AllReadyH.cons (o := ⟨_, _, _, _, _, _⟩) rfl (fun K hK => ?_) AllReadyH.nil)
    focus
      go_simp
      (go_at_call_of 9 (Value.agg #[vg1, vt1]); refine (toTileSet_any vg1 vt1 S1 _ (H1.out.below (by (repeat (first | exact Below.refl _ _ | refine Below.setCell ?_ (by first | (simp; done) | (simp; omega) | omega) _ | refine belowN ?_ _ | refine Below.drew ?_ | refine Below.alloc ?_ (by first | (simp; done) | (simp; omega) | omega) _ | refine Below.trans ?_ (Below.mono (by assumption) (by first | (simp; done) | (simp; omega) | omega)))))) hs1).mono ?_; rintro e w20 ⟨⟨h1g, h1t, rfl, ho1⟩, hb3⟩; have s20 : w19.heap.size ≤ w20.heap.size := Nat.le_trans (by first | exact Nat.le_refl _ | (simp; done) | (simp; omega)) hb3.size)
      refine hK.out _ _ ?_ (fun hHeld => ?_)
      · (try dsimp only)
        (((try go_split_ands); (try dsimp only); (repeat' apply And.intro)) <;> (repeat (first | with_reducible assumption | ((with_reducible refine cnew0 ?_); simp; done) | ((with_reducible refine cnew1 ?_); simp; done) | (with_reducible refine akeep ?_) | (with_reducible refine dkeep ?_) | ((with_reducible refine skeep ?_ ?_); rotate_left; (first | ((try dsimp only); omega) | (simp; done) | (simp; omega))) | (with_reducible refine bkeep hb3 ?_))))
      clear hK K
      (try simp only [Act.put, List.setIfInBounds_toArray, List.set_cons_zero, List.set_cons_succ])
      refine wpAnyH_ready (rs := [3, 8]) (by kernel_rfl) (by simp) ?_
      refine AllReadyH.cons (o := ⟨_, _, _, _, _, _⟩) rfl (fun K hK => ?_) (AllReadyH.cons (o := ⟨_, _, _, _, _, _⟩) rfl (fun K hK => ?_) AllReadyH.nil)
      focus
        go_simp
        (go_at_call_of 9 (Value.agg #[vg2, vt2]); refine (toTileSet_any vg2 vt2 S2 _ (H2.out.below (by (repeat (first | exact Below.refl _ _ | refine Below.setCell ?_ (by first | (simp; done) | (simp; omega) | omega) _ | refine belowN ?_ _ | refine Below.drew ?_ | refine Below.alloc ?_ (by first | (simp; done) | (simp; omega) | omega) _ | refine Below.trans ?_ (Below.mono (by assumption) (by first | (simp; done) | (simp; omega) | omega)))))) hs2).mono ?_; rintro e w21 ⟨⟨h2g, h2t, rfl, ho2⟩, hb3⟩; have s21 : w20.heap.size ≤ w21.heap.size := Nat.le_trans (by first | exact Nat.le_refl _ | (simp; done) | (simp; omega)) hb3.size)
        refine hK.out _ _ ?_ (fun hHeld => ?_)
        · (try dsimp only)
          (((try go_split_ands); (try dsimp only); (repeat' apply And.intro)) <;> (repeat (first | with_reducible assumption | ((with_reducible refine cnew0 ?_); simp; done) | ((with_reducible refine cnew1 ?_); simp; done) | (with_reducible refine akeep ?_) | (with_reducible refine dkeep ?_) | ((with_reducible refine skeep ?_ ?_); rotate_left; (first | ((try dsimp only); omega) | (simp; done) | (simp; omega))) | (with_reducible refine bkeep hb3 ?_))))
        clear hK K
        (try simp only [Act.put, List.setIfInBounds_toArray, List.set_cons_zero, List.set_cons_succ])
        refine wpAnyH_ready (rs := [4, 8]) (by kernel_rfl) (by simp) ?_
        refine AllReadyH.cons (o := ⟨_, _, _, _, _, _⟩) rfl (fun K hK => ?_) (AllReadyH.cons (o := ⟨_, _, _, _, _, _⟩) rfl (fun K hK => ?_) AllReadyH.nil)
        focus
          go_simp
          (go_at_call 10; refine (implMergeSets_law h1g h1t S1 h2g h2t S2 _ ((ho1.setIn hs1).below (by (repeat (first | exact Below.refl _ _ | refine Below.setCell ?_ (by first | (simp; done) | (simp; omega) | omega) _ | refine belowN ?_ _ | refine Below.drew ?_ | refine Below.alloc ?_ (by first | (simp; done) | (simp; omega) | omega) _ | refine Below.trans ?_ (Below.mono (by assumption) (by first | (simp; done) | (simp; omega) | omega)))))) ho1.sol ok1 hs1 ((ho2.setIn hs2).below (by (repeat (first | exact Below.refl _ _ | refine Below.setCell ?_ (by first | (simp; done) | (simp; omega) | omega) _ | refine belowN ?_ _ | refine Below.drew ?_ | refine Below.alloc ?_ (by first | (simp; done) | (simp; omega) | omega) _ | refine Below.trans ?_ (Below.mono (by assumption) (by first | (simp; done) | (simp; omega) | omega)))))) ho2.sol ok2 hs2).mono ?_; rintro e w22 ⟨⟨hrg, hrt, rfl, hro⟩, hb3⟩; have s22 : w21.heap.size ≤ w22.heap.size := Nat.le_trans (by first | exact Nat.le_refl _ | (simp; done) | (simp; omega)) hb3.size; obtain ⟨hrg0, hrg1, hrg2, hrg3, hrg4, hrg5, rfl, rfl⟩ := hro.setIn.shape)
          refine hK.out _ _ ?_ (fun hHeld => ?_)
          · (try dsimp only)
            (((try go_split_ands); (try dsimp only); (repeat' apply And.intro)) <;> (repeat (first | with_reducible assumption | ((with_reducible refine cnew0 ?_); simp; done) | ((with_reducible refine cnew1 ?_); simp; done) | (with_reducible refine akeep ?_) | (with_reducible refine dkeep ?_) | ((with_reducible refine skeep ?_ ?_); rotate_left; (first | ((try dsimp only); omega) | (simp; done) | (simp; omega))) | (with_reducible refine bkeep hb3 ?_))))
          clear hK K
          (try simp only [Act.put, List.setIfInBounds_toArray, List.set_cons_zero, List.set_cons_succ])
          refine wpAnyH_take (i := 5) (oi := ⟨_, _, _, _, _, _⟩) (v := ?_) rfl (by kernel_rfl) (by kernel_rfl) (by kernel_rfl) (fun _ _ _ h => h) (Or.inl ⟨by rfl, ?_⟩) (by assumption) ?_
          rotate_left
          · (intro w hSw; (try dsimp only at hSw); go_simp; (try with_reducible rfl))
          (try simp only [Act.put, List.setIfInBounds_toArray, List.set_cons_zero, List.set_cons_succ])
          refine wpAnyH_take (i := 6) (oi := ⟨_, _, _, _, _, _⟩) (v := ?_) rfl (by kernel_rfl) (by kernel_rfl) (by kernel_rfl) (fun _ _ _ h => h) (Or.inl ⟨by rfl, ?_⟩) (by assumption) ?_
          rotate_left
          · (intro w hSw; (try dsimp only at hSw); go_simp; (try with_reducible rfl))
          (try simp only [Act.put, List.setIfInBounds_toArray, List.set_cons_zero, List.set_cons_succ])
          refine wpAnyH_take (i := 7) (oi := ⟨_, _, _, _, _, _⟩) (v := ?_) rfl (by kernel_rfl) (by kernel_rfl) (by kernel_rfl) (fun _ _ _ h => h) (Or.inl ⟨by rfl, ?_⟩) (by assumption) ?_
          rotate_left
          · (intro w hSw; (try dsimp only at hSw); go_simp; (try with_reducible rfl))
          (try simp only [Act.put, List.setIfInBounds_toArray, List.set_cons_zero, List.set_cons_succ])
          refine wpAnyH_ready (rs := [8]) (by kernel_rfl) (by simp) ?_
          refine AllReadyH.cons (o := ⟨_, _, _, _, _, _⟩) rfl (fun K hK => ?_) AllReadyH.nil
          go_simp
          refine hK.out _ _ ?_ (fun hHeld => ?_)
          · (try dsimp only)
            (((try go_split_ands); (try dsimp only); (repeat' apply And.intro)) <;> (repeat (first | with_reducible assumption | ((with_reducible refine cnew0 ?_); simp; done) | ((with_reducible refine cnew1 ?_); simp; done) | (with_reducible refine akeep ?_) | (with_reducible refine dkeep ?_) | ((with_reducible refine skeep ?_ ?_); rotate_left; (first | ((try dsimp only); omega) | (simp; done) | (simp; omega))) | (with_reducible refine bkeep hb3 ?_))))
          clear hK K
          (try simp only [Act.put, List.setIfInBounds_toArray, List.set_cons_zero, List.set_cons_succ])
          refine wpAnyH_ready (rs := [9]) (by kernel_rfl) (by simp) ?_
          refine AllReadyH.cons (o := ⟨_, _, _, _, _, _⟩) rfl (fun K hK => ?_) AllReadyH.nil
          go_simp
          refine hK.out _ _ ?_ (fun hHeld => ?_)
          · (try dsimp only)
            (((try go_split_ands); (try dsimp only); (repeat' apply And.intro)) <;> (repeat (first | with_reducible assumption | ((with_reducible refine cnew0 ?_); simp; done) | ((with_reducible refine cnew1 ?_); simp; done) | (with_reducible refine akeep ?_) | (with_reducible refine dkeep ?_) | ((with_reducible refine skeep ?_ ?_); rotate_left; (first | ((try dsimp only); omega) | (simp; done) | (simp; omega))) | (with_reducible refine bkeep hb3 ?_))))
          clear hK K
          (try simp only [Act.put, List.setIfInBounds_toArray, List.set_cons_zero, List.set_cons_succ])
          refine wpAnyH_take (i := 10) (oi := ⟨_, _, _, _, _, _⟩) (v := ?_) rfl (by kernel_rfl) (by kernel_rfl) (by kernel_rfl) (fun _ _ _ h => h) (Or.inl ⟨by rfl, ?_⟩) (by assumption) ?_
          rotate_left
          · (intro w hSw; (try dsimp only at hSw); go_simp; (try with_reducible rfl))
          (try simp only [Act.put, List.setIfInBounds_toArray, List.set_cons_zero, List.set_cons_succ])
          refine wpAnyH_done (by kernel_rfl) ?_ _
          have WB : At (w22.alloc (.cells #[(.slice hrg0 hrg1 hrg2), (.slice hrg3 hrg4 hrg5)] 30)) (w22.heap.size) (.slice hrg0 hrg1 hrg2) (.slice hrg3 hrg4 hrg5) := ⟨by simp [go_sem], by simp [go_sem]⟩
          have VP := (hro.below (w1 := (w22.alloc (.cells #[(.slice hrg0 hrg1 hrg2), (.slice hrg3 hrg4 hrg5)] 30))) (by (repeat (first | exact Below.refl _ _ | refine Below.setCell ?_ (by first | (simp; done) | (simp; omega) | omega) _ | refine belowN ?_ _ | refine Below.drew ?_ | refine Below.alloc ?_ (by first | (simp; done) | (simp; omega) | omega) _ | refine Below.trans ?_ (Below.mono (by assumption) (by first | (simp; done) | (simp; omega) | omega))))))
          have qq : Below w19.heap.size w19 (w22.alloc (.cells #[(.slice hrg0 hrg1 hrg2), (.slice hrg3 hrg4 hrg5)] 30)) := by (repeat (first | exact Below.refl _ _ | refine Below.setCell ?_ (by first | (simp; done) | (simp; omega) | omega) _ | refine belowN ?_ _ | refine Below.drew ?_ | refine Below.alloc ?_ (by first | (simp; done) | (simp; omega) | omega) _ | refine Below.trans ?_ (Below.mono (by assumption) (by first | (simp; done) | (simp; omega) | omega))))
          generalize hW : (w22.alloc (.cells #[(.slice hrg0 hrg1 hrg2), (.slice hrg3 hrg4 hrg5)] 30)) = w23
          generalize hp : w22.heap.size = pw
          exact key h1g h1t h2g h2t hrg0 hrg1 hrg2 hrg3 hrg4 hrg5 _ _ ⟨WB, VP.setIn, qq⟩ w23 pw hW hp
        focus
          go_simp
          refine hK.out _ _ ?_ (fun hHeld => ?_)
          · (try dsimp only)
            (((try go_split_ands); (try dsimp only); (repeat' apply And.intro)) <;> (repeat (first | with_reducible assumption | ((with_reducible refine cnew0 ?_); simp; done) | ((with_reducible refine cnew1 ?_); simp; done) | (with_reducible refine akeep ?_) | (with_reducible refine dkeep ?_) | ((with_reducible refine skeep ?_ ?_); rotate_left; (first | ((try dsimp only); omega) | (simp; done) | (simp; omega))) | (with_reducible refine bkeep hb3 ?_))))
          clear hK K
          (try simp only [Act.put, List.setIfInBounds_toArray, List.set_cons_zero, List.set_cons_succ])
          have KB := Two.new (n := w21.heap.size) (w21) (.slice none 0 0) (.slice none 0 0) 30 (by first | rfl | (simp; done))
          refine wpAnyH_ready (rs := [4]) (by kernel_rfl) (by simp) ?_
          refine AllReadyH.cons (o := ⟨_, _, _, _, _, _⟩) rfl (fun K hK => ?_) AllReadyH.nil
          go_simp
          (go_at_call 10; refine (implMergeSets_law h1g h1t S1 h2g h2t S2 _ ((ho1.setIn hs1).below (by (repeat (first | exact Below.refl _ _ | refine Below.setCell ?_ (by first | (simp; done) | (simp; omega) | omega) _ | refine belowN ?_ _ | refine Below.drew ?_ | refine Below.alloc ?_ (by first | (simp; done) | (simp; omega) | omega) _ | refine Below.trans ?_ (Below.mono (by assumption) (by first | (simp; done) | (simp; omega) | omega)))))) ho1.sol ok1 hs1 ((ho2.setIn hs2).below (by (repeat (first | exact Below.refl _ _ | refine Below.setCell ?_ (by first | (simp; done) | (simp; omega) | omega) _ | refine belowN ?_ _ | refine Below.drew ?_ | refine Below.alloc ?_ (by first | (simp; done) | (simp; omega) | omega) _ | refine Below.trans ?_ (Below.mono (by assumption) (by first | (simp; done) | (simp; omega) | omega)))))) ho2.sol ok2 hs2).mono ?_; rintro e w22 ⟨⟨hrg, hrt, rfl, hro⟩, hb3⟩; have s22 : w21.heap.size ≤ w22.heap.size := Nat.le_trans (by first | exact Nat.le_refl _ | (simp; done) | (simp; omega)) hb3.size; obtain ⟨hrg0, hrg1, hrg2, hrg3, hrg4, hrg5, rfl, rfl⟩ := hro.setIn.shape; have KB := KB.below hb3; have lK2 := KB.lt)
          refine hK.out _ _ ?_ (fun hHeld => ?_)
          · (try dsimp only)
            (((try go_split_ands); (try dsimp only); (repeat' apply And.intro)) <;> (repeat (first | with_reducible assumption | ((with_reducible refine cnew0 ?_); simp; done) | ((with_reducible refine cnew1 ?_); simp; done) | (with_reducible refine akeep ?_) | (with_reducible refine dkeep ?_) | ((with_reducible refine skeep ?_ ?_); rotate_left; (first | ((try dsimp only); omega) | (simp; done) | (simp; omega))) | (with_reducible refine bkeep hb3 ?_))))
          clear hK K
          (try simp only [Act.put, List.setIfInBounds_toArray, List.set_cons_zero, List.set_cons_succ])
          refine wpAnyH_take (i := 5) (oi := ⟨_, _, _, _, _, _⟩) (v := ?_) rfl (by kernel_rfl) (by kernel_rfl) (by kernel_rfl) (fun _ _ _ h => h) (Or.inl ⟨by rfl, ?_⟩) (by assumption) ?_
          rotate_left
          · (intro w hSw; (try dsimp only at hSw); go_simp; (try with_reducible rfl))
          (try simp only [Act.put, List.setIfInBounds_toArray, List.set_cons_zero, List.set_cons_succ])
          refine wpAnyH_take (i := 6) (oi := ⟨_, _, _, _, _, _⟩) (v := ?_) rfl (by kernel_rfl) (by kernel_rfl) (by kernel_rfl) (fun _ _ _ h => h) (Or.inl ⟨by rfl, ?_⟩) (by assumption) ?_
          rotate_left
          · (intro w hSw; (try dsimp only at hSw); go_simp; (try with_reducible rfl))
          (try simp only [Act.put, List.setIfInBounds_toArray, List.set_cons_zero, List.set_cons_succ])
          refine wpAnyH_take (i := 7) (oi := ⟨_, _, _, _, _, _⟩) (v := ?_) rfl (by kernel_rfl) (by kernel_rfl) (by kernel_rfl) (fun _ _ _ h => h) (Or.inl ⟨by rfl, ?_⟩) (by assumption) ?_
          rotate_left
          · (intro w hSw; (try dsimp only at hSw); go_simp; (try with_reducible rfl))
          (try simp only [Act.put, List.setIfInBounds_toArray, List.set_cons_zero, List.set_cons_succ])
          obtain ⟨kc0, kc1, kc2, kc3⟩ := KB
          refine wpAnyH_ready (rs := [9]) (by kernel_rfl) (by simp) ?_
          refine AllReadyH.cons (o := ⟨_, _, _, _, _, _⟩) rfl (fun K hK => ?_) AllReadyH.nil
          go_simp
          refine hK.out _ _ ?_ (fun hHeld => ?_)
          · (try dsimp only)
            (((try go_split_ands); (try dsimp only); (repeat' apply And.intro)) <;> (repeat (first | with_reducible assumption | ((with_reducible refine cnew0 ?_); simp; done) | ((with_reducible refine cnew1 ?_); simp; done) | (with_reducible refine akeep ?_) | (with_reducible refine dkeep ?_) | ((with_reducible refine skeep ?_ ?_); rotate_left; (first | ((try dsimp only); omega) | (simp; done) | (simp; omega))) | (with_reducible refine bkeep hb3 ?_))))
          clear hK K
          (try simp only [Act.put, List.setIfInBounds_toArray, List.set_cons_zero, List.set_cons_succ])
          refine wpAnyH_take (i := 10) (oi := ⟨_, _, _, _, _, _⟩) (v := ?_) rfl (by kernel_rfl) (by kernel_rfl) (by kernel_rfl) (fun _ _ _ h => h) (Or.inl ⟨by rfl, ?_⟩) (by assumption) ?_
          rotate_left
          · (intro w hSw; (try dsimp only at hSw); go_simp; (try with_reducible rfl))
          (try simp only [Act.put, List.setIfInBounds_toArray, List.set_cons_zero, List.set_cons_succ])
          refine wpAnyH_done (by kernel_rfl) ?_ _
          have WB : At ((w22.setCell ⟨w21.heap.size, 0, none⟩ (.slice hrg0 hrg1 hrg2)).setCell ⟨w21.heap.size, 1, none⟩ (.slice hrg3 hrg4 hrg5)) (w21.heap.size) (.slice hrg0 hrg1 hrg2) (.slice hrg3 hrg4 hrg5) := ⟨by simp [go_sem, kc0, kc1, kc2, kc3], by simp [go_sem, kc0, kc1, kc2, kc3]⟩
          have VP := ((hro.keep (Within.set (w21.heap.size) (w21.heap.size + 1) w22 (a := ⟨w21.heap.size, 0, none⟩) (Nat.le_refl _) (Nat.lt_succ_self _) (.slice hrg0 hrg1 hrg2)) (.inr (by first | omega | (simp; done) | (simp; omega)))).keep (Within.set (w21.heap.size) (w21.heap.size + 1) (w22.setCell ⟨w21.heap.size, 0, none⟩ (.slice hrg0 hrg1 hrg2)) (a := ⟨w21.heap.size, 1, none⟩) (Nat.le_refl _) (Nat.lt_succ_self _) (.slice hrg3 hrg4 hrg5)) (.inr (by first | omega | (simp; done) | (simp; omega))))
          have qq : Below w19.heap.size w19 ((w22.setCell ⟨w21.heap.size, 0, none⟩ (.slice hrg0 hrg1 hrg2)).setCell ⟨w21.heap.size, 1, none⟩ (.slice hrg3 hrg4 hrg5)) := by (repeat (first | exact Below.refl _ _ | refine Below.setCell ?_ (by first | (simp; done) | (simp; omega) | omega) _ | refine belowN ?_ _ | refine Below.drew ?_ | refine Below.alloc ?_ (by first | (simp; done) | (simp; omega) | omega) _ | refine Below.trans ?_ (Below.mono (by assumption) (by first | (simp; done) | (simp; omega) | omega))))
          generalize hW : ((w22.setCell ⟨w21.heap.size, 0, none⟩ (.slice hrg0 hrg1 hrg2)).setCell ⟨w21.heap.size, 1, none⟩ (.slice hrg3 hrg4 hrg5)) = w23
          generalize hp : w21.heap.size = pw
          exact key h1g h1t h2g h2t hrg0 hrg1 hrg2 hrg3 hrg4 hrg5 _ _ ⟨WB, VP.setIn, qq⟩ w23 pw hW hp
      focus
        go_simp
        refine hK.out _ _ ?_ (fun hHeld => ?_)
        · (try dsimp only)
          (((try go_split_ands); (try dsimp only); (repeat' apply And.intro)) <;> (repeat (first | with_reducible assumption | ((with_reducible refine cnew0 ?_); simp; done) | ((with_reducible refine cnew1 ?_); simp; done) | (with_reducible refine akeep ?_) | (with_reducible refine dkeep ?_) | ((with_reducible refine skeep ?_ ?_); rotate_left; (first | ((try dsimp only); omega) | (simp; done) | (simp; omega))) | (with_reducible refine bkeep hb3 ?_))))
        clear hK K
        (try simp only [Act.put, List.setIfInBounds_toArray, List.set_cons_zero, List.set_cons_succ])
        have KB := Two.new (n := w20.heap.size) (w20) (.slice none 0 0) (.slice none 0 0) 30 (by first | rfl | (simp; done))
        refine wpAnyH_ready (rs := [3]) (by kernel_rfl) (by simp) ?_
        refine AllReadyH.cons (o := ⟨_, _, _, _, _, _⟩) rfl (fun K hK => ?_) AllReadyH.nil
        go_simp
        (go_at_call_of 9 (Value.agg #[vg2, vt2]); refine (toTileSet_any vg2 vt2 S2 _ (H2.out.below (by (repeat (first | exact Below.refl _ _ | refine Below.setCell ?_ (by first | (simp; done) | (simp; omega) | omega) _ | refine belowN ?_ _ | refine Below.drew ?_ | refine Below.alloc ?_ (by first | (simp; done) | (simp; omega) | omega) _ | refine Below.trans ?_ (Below.mono (by assumption) (by first | (simp; done) | (simp; omega) | omega)))))) hs2).mono ?_; rintro e w21 ⟨⟨h2g, h2t, rfl, ho2⟩, hb3⟩; have s21 : w20.heap.size ≤ w21.heap.size := Nat.le_trans (by first | exact Nat.le_refl _ | (simp; done) | (simp; omega)) hb3.size; have KB := KB.below hb3; have lK1 := KB.lt)
        refine hK.out _ _ ?_ (fun hHeld => ?_)
        · (try dsimp only)
          (((try go_split_ands); (try dsimp only); (repeat' apply And.intro)) <;> (repeat (first | with_reducible assumption | ((with_reducible refine cnew0 ?_); simp; done) | ((with_reducible refine cnew1 ?_); simp; done) | (with_reducible refine akeep ?_) | (with_reducible refine dkeep ?_) | ((with_reducible refine skeep ?_ ?_); rotate_left; (first | ((try dsimp only); omega) | (simp; done) | (simp; omega))) | (with_reducible refine bkeep hb3 ?_))))
        clear hK K
        (try simp only [Act.put, List.setIfInBounds_toArray, List.set_cons_zero, List.set_cons_succ])
        refine wpAnyH_ready (rs := [4]) (by kernel_rfl) (by simp) ?_
        refine AllReadyH.cons (o := ⟨_, _, _, _, _, _⟩) rfl (fun K hK => ?_) AllReadyH.nil
        go_simp
        (go_at_call 10; refine (implMergeSets_law h1g h1t S1 h2g h2t S2 _ ((ho1.setIn hs1).below (by (repeat (first | exact Below.refl _ _ | refine Below.setCell ?_ (by first | (simp; done) | (simp; omega) | omega) _ | refine belowN ?_ _ | refine Below.drew ?_ | refine Below.alloc ?_ (by first | (simp; done) | (simp; omega) | omega) _ | refine Below.trans ?_ (Below.mono (by assumption) (by first | (simp; done) | (simp; omega) | omega)))))) ho1.sol ok1 hs1 ((ho2.setIn hs2).below (by (repeat (first | exact Below.refl _ _ | refine Below.setCell ?_ (by first | (simp; done) | (simp; omega) | omega) _ | refine belowN ?_ _ | refine Below.drew ?_ | refine Below.alloc ?_ (by first | (simp; done) | (simp; omega) | omega) _ | refine Below.trans ?_ (Below.mono (by assumption) (by first | (simp; done) | (simp; omega) | omega)))))) ho2.sol ok2 hs2).mono ?_; rintro e w22 ⟨⟨hrg, hrt, rfl, hro⟩, hb3⟩; have s22 : w21.heap.size ≤ w22.heap.size := Nat.le_trans (by first | exact Nat.le_refl _ | (simp; done) | (simp; omega)) hb3.size; obtain ⟨hrg0, hrg1, hrg2, hrg3, hrg4, hrg5, rfl, rfl⟩ := hro.setIn.shape; have KB := KB.below hb3; have lK2 := KB.lt)
        refine hK.out _ _ ?_ (fun hHeld => ?_)
        · (try dsimp only)
          (((try go_split_ands); (try dsimp only); (repeat' apply And.intro)) <;> (repeat (first | with_reducible assumption | ((with_reducible refine cnew0 ?_); simp; done) | ((with_reducible refine cnew1 ?_); simp; done) | (with_reducible refine akeep ?_) | (with_reducible refine dkeep ?_) | ((with_reducible refine skeep ?_ ?_); rotate_left; (first | ((try dsimp only); omega) | (simp; done) | (simp; omega))) | (with_reducible refine bkeep hb3 ?_))))
        clear hK K
        (try simp only [Act.put, List.setIfInBounds_toArray, List.set_cons_zero, List.set_cons_succ])
        refine wpAnyH_take (i := 5) (oi := ⟨_, _, _, _, _, _⟩) (v := ?_) rfl (by kernel_rfl) (by kernel_rfl) (by kernel_rfl) (fun _ _ _ h => h) (Or.inl ⟨by rfl, ?_⟩) (by assumption) ?_
        rotate_left
        · (intro w hSw; (try dsimp only at hSw); go_simp; (try with_reducible rfl))
        (try simp only [Act.put, List.setIfInBounds_toArray, List.set_cons_zero, List.set_cons_succ])
        refine wpAnyH_take (i := 6) (oi := ⟨_, _, _, _, _, _⟩) (v := ?_) rfl (by kernel_rfl) (by kernel_rfl) (by kernel_rfl) (fun _ _ _ h => h) (Or.inl ⟨by rfl, ?_⟩) (by assumption) ?_
        rotate_left
        · (intro w hSw; (try dsimp only at hSw); go_simp; (try with_reducible rfl))
        (try simp only [Act.put, List.setIfInBounds_toArray, List.set_cons_zero, List.set_cons_succ])
        refine wpAnyH_take (i := 7) (oi := ⟨_, _, _, _, _, _⟩) (v := ?_) rfl (by kernel_rfl) (by kernel_rfl) (by kernel_rfl) (fun _ _ _ h => h) (Or.inl ⟨by rfl, ?_⟩) (by assumption) ?_
        rotate_left
        · (intro w hSw; (try dsimp only at hSw); go_simp; (try with_reducible rfl))
        (try simp only [Act.put, List.setIfInBounds_toArray, List.set_cons_zero, List.set_cons_succ])
        obtain ⟨kc0, kc1, kc2, kc3⟩ := KB
        refine wpAnyH_ready (rs := [9]) (by kernel_rfl) (by simp) ?_
        refine AllReadyH.cons (o := ⟨_, _, _, _, _, _⟩) rfl (fun K hK => ?_) AllReadyH.nil
        go_simp
        refine hK.out _ _ ?_ (fun hHeld => ?_)
        · (try dsimp only)
          (((try go_split_ands); (try dsimp only); (repeat' apply And.intro)) <;> (repeat (first | with_reducible assumption | ((with_reducible refine cnew0 ?_); simp; done) | ((with_reducible refine cnew1 ?_); simp; done) | (with_reducible refine akeep ?_) | (with_reducible refine dkeep ?_) | ((with_reducible refine skeep ?_ ?_); rotate_left; (first | ((try dsimp only); omega) | (simp; done) | (simp; omega))) | (with_reducible refine bkeep hb3 ?_))))
        clear hK K
        (try simp only [Act.put, List.setIfInBounds_toArray, List.set_cons_zero, List.set_cons_succ])
        refine wpAnyH_take (i := 10) (oi := ⟨_, _, _, _, _, _⟩) (v := ?_) rfl (by kernel_rfl) (by kernel_rfl) (by kernel_rfl) (fun _ _ _ h => h) (Or.inl ⟨by rfl, ?_⟩) (by assumption) ?_
        rotate_left
        · (intro w hSw; (try dsimp only at hSw); go_simp; (try with_reducible rfl))
        (try simp only [Act.put, List.setIfInBounds_toArray, List.set_cons_zero, List.set_cons_succ])
        refine wpAnyH_done (by kernel_rfl) ?_ _
        have WB : At ((w22.setCell ⟨w20.heap.size, 0, none⟩ (.slice hrg0 hrg1 hrg2)).setCell ⟨w20.heap.size, 1, none⟩ (.slice hrg3 hrg4 hrg5)) (w20.heap.size) (.slice hrg0 hrg1 hrg2) (.slice hrg3 hrg4 hrg5) := ⟨by simp [go_sem, kc0, kc1, kc2, kc3], by simp [go_sem, kc0, kc1, kc2, kc3]⟩
        have VP := ((hro.keep (Within.set (w20.heap.size) (w20.heap.size + 1) w22 (a := ⟨w20.heap.size, 0, none⟩) (Nat.le_refl _) (Nat.lt_succ_self _) (.slice hrg0 hrg1 hrg2)) (.inr (by first | omega | (simp; done) | (simp; omega)))).keep (Within.set (w20.heap.size) (w20.heap.size + 1) (w22.setCell ⟨w20.heap.size, 0, none⟩ (.slice hrg0 hrg1 hrg2)) (a := ⟨w20.heap.size, 1, none⟩) (Nat.le_refl _) (Nat.lt_succ_self _) (.slice hrg3 hrg4 hrg5)) (.inr (by first | omega | (simp; done) | (simp; omega))))
        have qq : Below w19.heap.size w19 ((w22.setCell ⟨w20.heap.size, 0, none⟩ (.slice hrg0 hrg1 hrg2)).setCell ⟨w20.heap.size, 1, none⟩ (.slice hrg3 hrg4 hrg5)) := by (repeat (first | exact Below.refl _ _ | refine Below.setCell ?_ (by first | (simp; done) | (simp; omega) | omega) _ | refine belowN ?_ _ | refine Below.drew ?_ | refine Below.alloc ?_ (by first | (simp; done) | (simp; omega) | omega) _ | refine Below.trans ?_ (Below.mono (by assumption) (by first | (simp; done) | (simp; omega) | omega))))
        generalize hW : ((w22.setCell ⟨w20.heap.size, 0, none⟩ (.slice hrg0 hrg1 hrg2)).setCell ⟨w20.heap.size, 1, none⟩ (.slice hrg3 hrg4 hrg5)) = w23
        generalize hp : w20.heap.size = pw
        exact key h1g h1t h2g h2t hrg0 hrg1 hrg2 hrg3 hrg4 hrg5 _ _ ⟨WB, VP.setIn, qq⟩ w23 pw hW hp
    focus
      go_simp
      refine hK.out _ _ ?_ (fun hHeld => ?_)
      · (try dsimp only)
        (((try go_split_ands); (try dsimp only); (repeat' apply And.intro)) <;> (repeat (first | with_reducible assumption | ((with_reducible refine cnew0 ?_); simp; done) | ((with_reducible refine cnew1 ?_); simp; done) | (with_reducible refine akeep ?_) | (with_reducible refine dkeep ?_) | ((with_reducible refine skeep ?_ ?_); rotate_left; (first | ((try dsimp only); omega) | (simp; done) | (simp; omega))) | (with_reducible refine bkeep hb3 ?_))))
      clear hK K
      (try simp only [Act.put, List.setIfInBounds_toArray, List.set_cons_zero, List.set_cons_succ])
      have KB := Two.new (n := w19.heap.size) (w19.drew) (.slice none 0 0) (.slice none 0 0) 30 (by first | rfl | (simp; done))
      refine wpAnyH_ready (rs := [1]) (by kernel_rfl) (by simp) ?_
      refine AllReadyH.cons (o := ⟨_, _, _, _, _, _⟩) rfl (fun K hK => ?_) AllReadyH.nil
      go_simp
      (go_at_call_of 9 (Value.agg #[vg1, vt1]); refine (toTileSet_any vg1 vt1 S1 _ (H1.out.below (by (repeat (first | exact Below.refl _ _ | refine Below.setCell ?_ (by first | (simp; done) | (simp; omega) | omega) _ | refine belowN ?_ _ | refine Below.drew ?_ | refine Below.alloc ?_ (by first | (simp; done) | (simp; omega) | omega) _ | refine Below.trans ?_ (Below.mono (by assumption) (by first | (simp; done) | (simp; omega) | omega)))))) hs1).mono ?_; rintro e w20 ⟨⟨h1g, h1t, rfl, ho1⟩, hb3⟩; have s20 : w19.heap.size ≤ w20.heap.size := Nat.le_trans (by first | exact Nat.le_refl _ | (simp; done) | (simp; omega)) hb3.size; have KB := KB.below hb3; have lK0 := KB.lt)
      refine hK.out _ _ ?_ (fun hHeld => ?_)
      · (try dsimp only)
        (((try go_split_ands); (try dsimp only); (repeat' apply And.intro)) <;> (repeat (first | with_reducible assumption | ((with_reducible refine cnew0 ?_); simp; done) | ((with_reducible refine cnew1 ?_); simp; done) | (with_reducible refine akeep ?_) | (with_reducible refine dkeep ?_) | ((with_reducible refine skeep ?_ ?_); rotate_left; (first | ((try dsimp only); omega) | (simp; done) | (simp; omega))) | (with_reducible refine bkeep hb3 ?_))))
      clear hK K
      (try simp only [Act.put, List.setIfInBounds_toArray, List.set_cons_zero, List.set_cons_succ])
      refine wpAnyH_ready (rs := [3]) (by kernel_rfl) (by simp) ?_
      refine AllReadyH.cons (o := ⟨_, _, _, _, _, _⟩) rfl (fun K hK => ?_) AllReadyH.nil
      go_simp
      (go_at_call_of 9 (Value.agg #[vg2, vt2]); refine (toTileSet_any vg2 vt2 S2 _ (H2.out.below (by (repeat (first | exact Below.refl _ _ | refine Below.setCell ?_ (by first | (simp; done) | (simp; omega) | omega) _ | refine belowN ?_ _ | refine Below.drew ?_ | refine Below.alloc ?_ (by first | (simp; done) | (simp; omega) | omega) _ | refine Below.trans ?_ (Below.mono (by assumption) (by first | (simp; done) | (simp; omega) | omega)))))) hs2).mono ?_; rintro e w21 ⟨⟨h2g, h2t, rfl, ho2⟩, hb3⟩; have s21 : w20.heap.size ≤ w21.heap.size := Nat.le_trans (by first | exact Nat.le_refl _ | (simp; done) | (simp; omega)) hb3.size; have KB := KB.below hb3; have lK1 := KB.lt)
      refine hK.out _ _ ?_ (fun hHeld => ?_)
      · (try dsimp only)
        (((try go_split_ands); (try dsimp only); (repeat' apply And.intro)) <;> (repeat (first | with_reducible assumption | ((with_reducible refine cnew0 ?_); simp; done) | ((with_reducible refine cnew1 ?_); simp; done) | (with_reducible refine akeep ?_) | (with_reducible refine dkeep ?_) | ((with_reducible refine skeep ?_ ?_); rotate_left; (first | ((try dsimp only); omega) | (simp; done) | (simp; omega))) | (with_reducible refine bkeep hb3 ?_))))
      clear hK K
      (try simp only [Act.put, List.setIfInBounds_toArray, List.set_cons_zero, List.set_cons_succ])
      refine wpAnyH_ready (rs := [4]) (by kernel_rfl) (by simp) ?_
      refine AllReadyH.cons (o := ⟨_, _, _, _, _, _⟩) rfl (fun K hK => ?_) AllReadyH.nil
      go_simp
      (go_at_call 10; refine (implMergeSets_law h1g h1t S1 h2g h2t S2 _ ((ho1.setIn hs1).below (by (repeat (first | exact Below.refl _ _ | refine Below.setCell ?_ (by first | (simp; done) | (simp; omega) | omega) _ | refine belowN ?_ _ | refine Below.drew ?_ | refine Below.alloc ?_ (by first | (simp; done) | (simp; omega) | omega) _ | refine Below.trans ?_ (Below.mono (by assumption) (by first | (simp; done) | (simp; omega) | omega)))))) ho1.sol ok1 hs1 ((ho2.setIn hs2).below (by (repeat (first | exact Below.refl _ _ | refine Below.setCell ?_ (by first | (simp; done) | (simp; omega) | omega) _ | refine belowN ?_ _ | refine Below.drew ?_ | refine Below.alloc ?_ (by first | (simp; done) | (simp; omega) | omega) _ | refine Below.trans ?_ (Below.mono (by assumption) (by first | (simp; done) | (simp; omega) | omega)))))) ho2.sol ok2 hs2).mono ?_; rintro e w22 ⟨⟨hrg, hrt, rfl, hro⟩, hb3⟩; have s22 : w21.heap.size ≤ w22.heap.size := Nat.le_trans (by first | exact Nat.le_refl _ | (simp; done) | (simp; omega)) hb3.size; obtain ⟨hrg0, hrg1, hrg2, hrg3, hrg4, hrg5, rfl, rfl⟩ := hro.setIn.shape; have KB := KB.below hb3; have lK2 := KB.lt)
      refine hK.out _ _ ?_ (fun hHeld => ?_)
      · (try dsimp only)
        (((try go_split_ands); (try dsimp only); (repeat' apply And.intro)) <;> (repeat (first | with_reducible assumption | ((with_reducible refine cnew0 ?_); simp; done) | ((with_reducible refine cnew1 ?_); simp; done) | (with_reducible refine akeep ?_) | (with_reducible refine dkeep ?_) | ((with_reducible refine skeep ?_ ?_); rotate_left; (first | ((try dsimp only); omega) | (simp; done) | (simp; omega))) | (with_reducible refine bkeep hb3 ?_))))
      clear hK K
      (try simp only [Act.put, List.setIfInBounds_toArray, List.set_cons_zero, List.set_cons_succ])
      refine wpAnyH_take (i := 5) (oi := ⟨_, _, _, _, _, _⟩) (v := ?_) rfl (by kernel_rfl) (by kernel_rfl) (by kernel_rfl) (fun _ _ _ h => h) (Or.inl ⟨by rfl, ?_⟩) (by assumption) ?_
      rotate_left
      · (intro w hSw; (try dsimp only at hSw); go_simp; (try with_reducible rfl))
      (try simp only [Act.put, List.setIfInBounds_toArray, List.set_cons_zero, List.set_cons_succ])
      refine wpAnyH_take (i := 6) (oi := ⟨_, _, _, _, _, _⟩) (v := ?_) rfl (by kernel_rfl) (by kernel_rfl) (by kernel_rfl) (fun _ _ _ h => h) (Or.inl ⟨by rfl, ?_⟩) (by assumption) ?_
      rotate_left
      · (intro w hSw; (try dsimp only at hSw); go_simp; (try with_reducible rfl))
      (try simp only [Act.put, List.setIfInBounds_toArray, List.set_cons_zero, List.set_cons_succ])
      refine wpAnyH_take (i := 7) (oi := ⟨_, _, _, _, _, _⟩) (v := ?_) rfl (by kernel_rfl) (by kernel_rfl) (by kernel_rfl) (fun _ _ _ h => h) (Or.inl ⟨by rfl, ?_⟩) (by assumption) ?_
      rotate_left
      · (intro w hSw; (try dsimp only at hSw); go_simp; (try with_reducible rfl))
      (try simp only [Act.put, List.setIfInBounds_toArray, List.set_cons_zero, List.set_cons_succ])
      obtain ⟨kc0, kc1, kc2, kc3⟩ := KB
      refine wpAnyH_ready (rs := [9]) (by kernel_rfl) (by simp) ?_
      refine AllReadyH.cons (o := ⟨_, _, _, _, _, _⟩) rfl (fun K hK => ?_) AllReadyH.nil
      go_simp
      refine hK.out _ _ ?_ (fun hHeld => ?_)
      · (try dsimp only)
        (((try go_split_ands); (try dsimp only); (repeat' apply And.intro)) <;> (repeat (first | with_reducible assumption | ((with_reducible refine cnew0 ?_); simp; done) | ((with_reducible refine cnew1 ?_); simp; done) | (with_reducible refine akeep ?_) | (with_reducible refine dkeep ?_) | ((with_reducible refine skeep ?_ ?_); rotate_left; (first | ((try dsimp only); omega) | (simp; done) | (simp; omega))) | (with_reducible refine bkeep hb3 ?_))))
      clear hK K
      (try simp only [Act.put, List.setIfInBounds_toArray, List.set_cons_zero, List.set_cons_succ])
      refine wpAnyH_take (i := 10) (oi := ⟨_, _, _, _, _, _⟩) (v := ?_) rfl (by kernel_rfl) (by kernel_rfl) (by kernel_rfl) (fun _ _ _ h => h) (Or.inl ⟨by rfl, ?_⟩) (by assumption) ?_
      rotate_left
      · (intro w hSw; (try dsimp only at hSw); go_simp; (try with_reducible rfl))
      (try simp only [Act.put, List.setIfInBounds_toArray, List.set_cons_zero, List.set_cons_succ])
      refine wpAnyH_done (by kernel_rfl) ?_ _
      have WB : At ((w22.setCell ⟨w19.heap.size, 0, none⟩ (.slice hrg0 hrg1 hrg2)).setCell ⟨w19.heap.size, 1, none⟩ (.slice hrg3 hrg4 hrg5)) (w19.heap.size) (.slice hrg0 hrg1 hrg2) (.slice hrg3 hrg4 hrg5) := ⟨by simp [go_sem, kc0, kc1, kc2, kc3], by simp [go_sem, kc0, kc1, kc2, kc3]⟩
      have VP := ((hro.keep (Within.set (w19.heap.size) (w19.heap.size + 1) w22 (a := ⟨w19.heap.size, 0, none⟩) (Nat.le_refl _) (Nat.lt_succ_self _) (.slice hrg0 hrg1 hrg2)) (.inr (by first | omega | (simp; done) | (simp; omega)))).keep (Within.set (w19.heap.size) (w19.heap.size + 1) (w22.setCell ⟨w19.heap.size, 0, none⟩ (.slice hrg0 hrg1 hrg2)) (a := ⟨w19.heap.size, 1, none⟩) (Nat.le_refl _) (Nat.lt_succ_self _) (.slice hrg3 hrg4 hrg5)) (.inr (by first | omega | (simp; done) | (simp; omega))))
      have qq : Below w19.heap.size w19 ((w22.setCell ⟨w19.heap.size, 0, none⟩ (.slice hrg0 hrg1 hrg2)).setCell ⟨w19.heap.size, 1, none⟩ (.slice hrg3 hrg4 hrg5)) := by (repeat (first | exact Below.refl _ _ | refine Below.setCell ?_ (by first | (simp; done) | (simp; omega) | omega) _ | refine belowN ?_ _ | refine Below.drew ?_ | refine Below.alloc ?_ (by first | (simp; done) | (simp; omega) | omega) _ | refine Below.trans ?_ (Below.mono (by assumption) (by first | (simp; done) | (simp; omega) | omega))))
      generalize hW : ((w22.setCell ⟨w19.heap.size, 0, none⟩ (.slice hrg0 hrg1 hrg2)).setCell ⟨w19.heap.size, 1, none⟩ (.slice hrg3 hrg4 hrg5)) = w23
      generalize hp : w19.heap.size = pw
      exact key h1g h1t h2g h2t hrg0 hrg1 hrg2 hrg3 hrg4 hrg5 _ _ ⟨WB, VP.setIn, qq⟩ w23 pw hW hp
  rintro h1g h1t h2g h2t hrg0 hrg1 hrg2 hrg3 hrg4 hrg5 w23 pw23 ⟨WB, VP, q23⟩
  have sq23 : w19.heap.size ≤ w23.heap.size := q23.size
  have lpw23 : pw23 < w23.heap.size := WB.lt
  have B23 : Below w.heap.size w w23 := B19.trans (q23.mono (by omega))
  have C23 := Lib.hid (C19.out.trans (q23.mono (by omega)))
  have A1_23 := Lib.hid (A1_19.out.below q23)
  have A2_23 := Lib.hid (A2_19.out.below q23)
  have W0_23 := Lib.hid (W0_19.out.below q23)
  have U_23 := Lib.hid (U_19.out.below q23)
  have Z0_23 := Lib.hid (Z0_19.out.below q23)
  clear kA10 kA11 lA1 kA20 kA21 lA2
  clear q23
  have HI := Lib.hid VP
  clear VP
  have J0_23 := Lib.hid WB
  clear WB
  obtain ⟨kJ00, kJ01⟩ := J0_23.out
  have lJ0 := J0_23.out.lt
  obtain ⟨kW00, kW01⟩ := W0_23.out
  have lW0 := W0_23.out.lt
  go_wp2_with fail
  refine (eqTileSet_yes _ _ _ _ (meS S1 S2) _ (HI.out.below (by (repeat (first | exact Below.refl _ _ | refine Below.setCell ?_ (by first | (simp; done) | (simp; omega) | omega) _ | refine belowN ?_ _ | refine Below.drew ?_ | refine Below.alloc ?_ (by first | (simp; done) | (simp; omega) | omega) _ | refine Below.trans ?_ (Below.mono (by assumption) (by first | (simp; done) | (simp; omega) | omega)))))) ((VS.out.below C23.out).below (by (repeat (first | exact Below.refl _ _ | refine Below.setCell ?_ (by first | (simp; done) | (simp; omega) | omega) _ | refine belowN ?_ _ | refine Below.drew ?_ | refine Below.alloc ?_ (by first | (simp; done) | (simp; omega) | omega) _ | refine Below.trans ?_ (Below.mono (by assumption) (by first | (simp; done) | (simp; omega) | omega))))))).mono ?_
  rintro e w24 ⟨rfl, hb⟩
  have q24 : Below w23.heap.size w23 w24 := by (repeat (first | exact Below.refl _ _ | refine Below.setCell ?_ (by first | (simp; done) | (simp; omega) | omega) _ | refine belowN ?_ _ | refine Below.drew ?_ | refine Below.alloc ?_ (by first | (simp; done) | (simp; omega) | omega) _ | refine Below.trans ?_ (Below.mono (by assumption) (by first | (simp; done) | (simp; omega) | omega))))
  have s24 : w23.heap.size ≤ w24.heap.size := q24.size
  have B24 : Below w.heap.size w w24 := B23.trans (q24.mono (by omega))
  have C24 := Lib.hid (C23.out.trans (q24.mono (by omega)))
  have A1_24 := Lib.hid (A1_23.out.below q24)
  have A2_24 := Lib.hid (A2_23.out.below q24)
  have W0_24 := Lib.hid (W0_23.out.below q24)
  have U_24 := Lib.hid (U_23.out.below q24)
  have Z0_24 := Lib.hid (Z0_23.out.below q24)
  have J0_24 := Lib.hid (J0_23.out.below q24)
  clear hb q24 kJ00 kJ01 lJ0 kW00 kW01 lW0
  obtain ⟨kZ00, kZ01⟩ := Z0_24.out
  have lZ0 := Z0_24.out.lt
  go_wp2_with fail
  refine (heldTileSet_one _ _ (meS S1 S2) _ U_24.out hsR).mono ?_
  rintro e w25 ⟨rfl, hb⟩
  have q25 : Below w24.heap.size w24 w25 := by (repeat (first | exact Below.refl _ _ | refine Below.setCell ?_ (by first | (simp; done) | (simp; omega) | omega) _ | refine belowN ?_ _ | refine Below.drew ?_ | refine Below.alloc ?_ (by first | (simp; done) | (simp; omega) | omega) _ | refine Below.trans ?_ (Below.mono (by assumption) (by first | (simp; done) | (simp; omega) | omega))))
  have s25 : w24.heap.size ≤ w25.heap.size := q25.size
  have B25 : Below w.heap.size w w25 := B24.trans (q25.mono (by omega))
  have C25 := Lib.hid (C24.out.trans (q25.mono (by omega)))
  have A1_25 := Lib.hid (A1_24.out.below q25)
  have A2_25 := Lib.hid (A2_24.out.below q25)
  have W0_25 := Lib.hid (W0_24.out.below q25)
  have U_25 := Lib.hid (U_24.out.below q25)
  have Z0_25 := Lib.hid (Z0_24.out.below q25)
  have J0_25 := Lib.hid (J0_24.out.below q25)
  clear hb q25 kZ00 kZ01 lZ0
  go_wp2_with fail
  go_ret
  exact ⟨rfl, B25⟩

namespace fnExactMergeSets
open Go.ChangeShapes Go.WideShapes Go.ChangeAt Go.RowKit Go.Joins
open Go.ChangeMaps (open_string shut_string)
theorem own : ownKnob Try.prog.godebug = none := by kernel_rfl
theorem laidOut : laidOutB Try.prog = true := by kernel_rfl
theorem readable : (Try.f3.params.toList.all fun t => Try.prog.readableRec t && decide (t < Try.prog.types.size)) = true := by kernel_rfl
theorem cells_0 : Try.prog.cellsOf 25 = 2 := by kernel_rfl
theorem cells_1 : Try.prog.cellsOf 25 = 2 := by kernel_rfl
set_option maxRecDepth 100000 in
set_option linter.unusedVariables false in
theorem contract (H : Type) (enc : TypeId × Value → H) (W : World) (base : Nat) (args : Array Value) (ds gs : List (DataW H)) (before : List MemPlace)
    (hval : ∀ (j : Nat) t v, Try.f3.params[j]? = some t → args[j]? = some v → Value.okWide Try.prog W .any base t v)
    (hW : DataW.Whole enc Try.prog Try.f3.params.toList Rows.fnExactMergeSetsSpec.vars false W args.toList ds gs before) :
    Calls Try.prog 3 args W fun e W' => ∃ v, e = .returned v ∧ Rows.fnExactMergeSetsSpec.post enc Try.prog Try.f3 false true false false W args v W' := by
  have hW' := hW
  obtain ⟨p, q, hA0, hV, rfl, hfz, hnd⟩ := hW
  have hA : DataW.TrodAll enc Try.prog W 0 (fun _ => true) true Try.f3.params.toList args.toList ds p := hA0
  rw [Try.params3] at hA hval
  obtain ⟨v0, vs0, d0, ds0, p0, q0, ha0, rfl, rfl, h0, r0⟩ := trodAll_cons hA
  obtain ⟨v1, vs1, d1, ds1, p1, q1, ha1, rfl, rfl, h1, r1⟩ := trodAll_cons r0
  obtain ⟨rfl, rfl, rfl⟩ := trodAll_nil r1
  obtain rfl : args = #[v0, v1] := by cases args; simp_all
  obtain ⟨rfl, rfl⟩ := trodVars_none hV
  obtain ⟨c0, e0, y0, z0, m0, rfl, -, -, hy0, hz0⟩ := open_agg2 Try.underlying25 (by kernel_rfl) cells_0 (hval 0 25 v0 rfl rfl) h0
  obtain ⟨gs0, hg0, og0⟩ := open_glues (t := 22) (e := 103) Try.underlying22 Try.underlying103 (by kernel_rfl) (by kernel_rfl) rfl rfl Try.underlying9 Try.underlying2 hy0
  obtain ⟨ts0, ht0, ot0⟩ := open_tiles (t := 23) (e := 105) Try.underlying23 Try.underlying105 (by kernel_rfl) (by kernel_rfl) rfl rfl Try.underlying9 Try.underlying37 Try.underlying2 (by kernel_rfl) hz0
  obtain ⟨c1, e1, y1, z1, m1, rfl, -, -, hy1, hz1⟩ := open_agg2 Try.underlying25 (by kernel_rfl) cells_1 (hval 1 25 v1 rfl rfl) h1
  obtain ⟨gs1, hg1, og1⟩ := open_glues (t := 22) (e := 103) Try.underlying22 Try.underlying103 (by kernel_rfl) (by kernel_rfl) rfl rfl Try.underlying9 Try.underlying2 hy1
  obtain ⟨ts1, ht1, ot1⟩ := open_tiles (t := 23) (e := 105) Try.underlying23 Try.underlying105 (by kernel_rfl) (by kernel_rfl) rfl rfl Try.underlying9 Try.underlying37 Try.underlying2 (by kernel_rfl) hz1
  refine (walk_FnExactMergeSets c0 e0 ⟨gs0, ts0⟩ c1 e1 ⟨gs1, ts1⟩ W ⟨hg0, ht0⟩ ⟨og0, ot0⟩ ⟨hg1, ht1⟩ ⟨og1, ot1⟩).mono fun e W' ⟨he, hg⟩ => ?_
  subst he
  exact ⟨_, rfl, post_mem laidOut readable hW' (fun _ _ _ => (trodAll_cons_mk (shut_bool Try.underlying4 _) trodAll_mk0)) hA0 rfl rfl (by simp) hg⟩
set_option maxRecDepth 100000 in
theorem lifted (os : Os) (started : os.Started) (H : Type) (enc : TypeId × Value → H) :
    ReturnsInHanded {} Try.checked os 3 .any (Rows.fnExactMergeSetsSpec.pre6 enc Try.prog Try.f3 Rows.fnExactMergeSetsRow.domain false) (Rows.fnExactMergeSetsSpec.post enc Try.prog Try.f3 false true false false) := by
  refine returnsInHanded_of_change (C := Try.checked) own started (by kernel_rfl) Try.func3
    (ChangeSpec.witness6 (enc := enc) (C := Try.checked) false ⟨#[], #[.agg #[.slice none 0 0, .slice none 0 0], .agg #[.slice none 0 0, .slice none 0 0]], []⟩ 8 (by kernel_rfl) (by kernel_rfl) (by kernel_rfl) (by kernel_rfl)) ?_
  intro W base args ds gs before hval hW _ _
  exact contract H enc W base args ds gs before hval hW
end fnExactMergeSets
theorem fnExactMergeSets_holds : Rows.FnExactMergeSetsSaid :=
  OpenClaim.holds_of_wide 3 Try.f3 rfl rfl rfl rfl rfl rfl rfl ⟨rfl, rfl, rfl, rfl, rfl⟩ rfl rfl rfl rfl rfl (by kernel_rfl) Try.func3 (by kernel_rfl)
    (of_decide_eq_true (by kernel_rfl)) (by unfold Func.isWrapper; first | (rw [if_pos (by decide +kernel)]; kernel_rfl) | (rw [if_neg (by decide +kernel)]; exact ⟨rfl, rfl⟩))
    (fun os started H enc _ => fnExactMergeSets.lifted os started H enc)
end Go.Proofs.Ytggpmailkkpdaaa
