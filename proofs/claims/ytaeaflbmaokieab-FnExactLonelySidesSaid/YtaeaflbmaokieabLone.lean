/-
  Lonely sides, the model's. Conditions: each theorem's own.
-/
import Derived.Test.YtaeaflbmaokieabBonds
namespace Go.Proofs.Ytaeaflbmaokieab
open Go.RowKit

/-- The direction across. -/
def oppN (d : Nat) : Nat := (d + 2) % 4
theorem oppN_lt (d : Nat) : oppN d < 4 := Nat.mod_lt _ (by omega)
theorem oppZ_N {d : Nat} (h : d < 4) : oppZ (d : Int) = (oppN d : Int) := by unfold oppZ oppN; omega
/-- Side d of tile i has no glue, or one that some tile has across. -/
def metP (S : Set_) (i d n : Nat) : Prop := sideZ S i d = 0 ∨ ∃ k, k < n ∧ sideZ S k (oppN d) = sideZ S i d
open Classical in
noncomputable def metB (S : Set_) (i d n : Nat) : Bool := decide (metP S i d n)
theorem metB_iff {S : Set_} {i d n : Nat} : metB S i d n = true ↔ metP S i d n := by unfold metB; simp
theorem metB_no {S : Set_} {i d n : Nat} (h : ¬ metP S i d n) : metB S i d n = false := by unfold metB; simpa using h
theorem metB_zero (S : Set_) (i d : Nat) : metB S i d 0 = (sideZ S i d == 0) := by
  by_cases h : sideZ S i d = 0
  · rw [metB_iff.2 (.inl h)]; simp [h]
  · rw [metB_no (by rintro (a | ⟨k, hk, -⟩); exact h a; omega)]; simp [h]
theorem metB_succ (S : Set_) (i d k : Nat) : metB S i d (k + 1) = (metB S i d k || (sideZ S k (oppN d) == sideZ S i d)) := by
  cases h1 : metB S i d k
  · by_cases h2 : sideZ S k (oppN d) = sideZ S i d
    · rw [metB_iff.2 (.inr ⟨k, by omega, h2⟩)]; simp [h2]
    · rw [metB_no ?_]
      · simp [h2]
      · rintro (a | ⟨j, hj, a⟩)
        · have := metB_iff.2 (show metP S i d k from .inl a); rw [h1] at this; cases this
        · by_cases e : j = k
          · subst e; exact h2 a
          · have := metB_iff.2 (show metP S i d k from .inr ⟨j, by omega, a⟩); rw [h1] at this; cases this
  · rcases metB_iff.1 h1 with a | ⟨j, hj, a⟩
    · rw [metB_iff.2 (.inl a)]; simp
    · rw [metB_iff.2 (.inr ⟨j, by omega, a⟩)]; simp
/-- How many of the first q sides are lonely. -/
noncomputable def loN (S : Set_) (n : Nat) : Nat → Nat
  | 0 => 0
  | q + 1 => loN S n q + (if metB S (q / 4) (q % 4) n = true then 0 else 1)
theorem loN_le (S : Set_) (n q : Nat) : loN S n q ≤ q := by
  induction q with
  | zero => exact Nat.le_refl _
  | succ q ih => simp only [loN]; split <;> omega
theorem loN_side (S : Set_) (n i d : Nat) (hd : d < 4) : loN S n (i * 4 + d + 1) = loN S n (i * 4 + d) + (if metB S i d n = true then 0 else 1) := by
  rw [loN, show (i * 4 + d) / 4 = i by omega, show (i * 4 + d) % 4 = d by omega]
noncomputable def loV (S : Set_) : Int := if validB S = true then (loN S S.ts.length (S.ts.length * 4) : Int) else 0
noncomputable def loC (S : Set_) : Int := if validB S = true then 0 else 1
theorem lo_no {S : Set_} (h : validB S = false) : loV S = 0 ∧ loC S = 1 := by simp [loV, loC, h]
theorem lo_yes {S : Set_} (h : validB S = true) : loV S = (loN S S.ts.length (S.ts.length * 4) : Int) ∧ loC S = 0 := by simp [loV, loC, h]

set_option maxRecDepth 100000 in
set_option maxHeartbeats 4000000 in
set_option linter.unusedSimpArgs false in
theorem specLone_any (vg vt : Value) (S : Set_) (w : World) (hS : SetIn w vg vt S) (ok : S.ok) (hs : S.small) :
    Calls Try.prog 33 #[.agg #[vg, vt]] w fun e w' => e = .returned (.tuple #[.int .i64 (loV S), .int .i64 (loC S)]) ∧ Below w.heap.size w w' := by
  have HS := Lib.hid hS
  clear hS
  cases hv : validB S
  · have K := Lib.hid (lo_no hv)
    go_enter Try.func33, Try.ntmps33
    go_wp2_with fail
    refine (l02Ok_any w.heap.size _ vt S _ ⟨by simp [go_sem], by simp [go_sem]⟩ (HS.out.below (by (repeat (first | exact Below.refl _ _ | refine Below.setCell ?_ (by first | (simp; done) | (simp; omega) | omega) _ | refine belowN ?_ _ | refine Below.drew ?_ | refine Below.alloc ?_ (by first | (simp; done) | (simp; omega) | omega) _ | refine Below.trans ?_ (Below.mono (by assumption) (by first | (simp; done) | (simp; omega) | omega)))))) ok hs).mono ?_
    rintro e w1 ⟨rfl, hb1⟩
    rw [hv]
    go_wp2_with fail
    go_ret2
    exact ⟨by rw [K.out.1, K.out.2]; rfl, by (repeat (first | exact Below.refl _ _ | refine Below.setCell ?_ (by first | (simp; done) | (simp; omega) | omega) _ | refine belowN ?_ _ | refine Below.drew ?_ | refine Below.alloc ?_ (by first | (simp; done) | (simp; omega) | omega) _ | refine Below.trans ?_ (Below.mono (by assumption) (by first | (simp; done) | (simp; omega) | omega))))⟩
  · have K := Lib.hid (lo_yes hv)
    have V := validB_iff.1 hv
    have HV := Lib.hid V
    have h160 := V.t.len
    have h1t := V.t.one
    have HT := Lib.hid HS.out.t
    clear V
    go_enter Try.func33, Try.ntmps33
    go_wp2_with fail
    refine (l02Ok_any w.heap.size _ vt S _ ⟨by simp [go_sem], by simp [go_sem]⟩ (HS.out.below (by (repeat (first | exact Below.refl _ _ | refine Below.setCell ?_ (by first | (simp; done) | (simp; omega) | omega) _ | refine belowN ?_ _ | refine Below.drew ?_ | refine Below.alloc ?_ (by first | (simp; done) | (simp; omega) | omega) _ | refine Below.trans ?_ (Below.mono (by assumption) (by first | (simp; done) | (simp; omega) | omega)))))) ok hs).mono ?_
    rintro e w1 ⟨rfl, hb1⟩
    rw [hv]
    have B1 : Below w.heap.size w w1 := by (repeat (first | exact Below.refl _ _ | refine Below.setCell ?_ (by first | (simp; done) | (simp; omega) | omega) _ | refine belowN ?_ _ | refine Below.drew ?_ | refine Below.alloc ?_ (by first | (simp; done) | (simp; omega) | omega) _ | refine Below.trans ?_ (Below.mono (by assumption) (by first | (simp; done) | (simp; omega) | omega))))
    have A1 := Lib.hid ((At.new w vg vt 45).below hb1)
    obtain ⟨b, off, cap, rfl, hl2, hmx, hc⟩ := tiles_open HT.out (by omega)
    unfold maxLen at hmx
    have HC := Lib.hid hc
    clear hb1 hc
    generalize hn : S.ts.length = n at *
    go_wp2_with fail
    go_loopw [4, 5] (fun c i wr => ∃ k : Nat, k ≤ n ∧ i = .int .i64 k ∧ c = .int .i64 ((loN S n (k * 4) : Nat) : Int) ∧ At wr w.heap.size vg (.slice (some ⟨b, off, none⟩) n cap) ∧ Below w.heap.size w wr) (fun _ i _ => n - (intOf i).toNat)
    case atStart => exact ⟨0, by omega, rfl, rfl, A1.out, B1⟩
    case round =>
      obtain ⟨i, hi, rfl, rfl, hat, hbw⟩ := hrel
      have HA := Lib.hid hat
      obtain ⟨k0, k1⟩ := hat
      by_cases hlt : i < n
      · go_wp2_with fail
        have hle := loN_le S n (i * 4)
        go_loopw [4, 6] (fun c x wr => ∃ d : Nat, d ≤ 4 ∧ x = .int .i64 d ∧ c = .int .i64 ((loN S n (i * 4 + d) : Nat) : Int) ∧ At wr w.heap.size vg (.slice (some ⟨b, off, none⟩) n cap) ∧ Below w.heap.size w wr) (fun _ x _ => 4 - (intOf x).toNat)
        case atStart => exact ⟨0, by omega, rfl, rfl, HA.out, hbw⟩
        case round =>
          clear k0 k1 HA hbw
          obtain ⟨d, hd, rfl, rfl, hat, hbw⟩ := hrel
          have HA := Lib.hid hat
          obtain ⟨k0, k1⟩ := hat
          by_cases hd4 : d < 4
          · obtain ⟨b2, o2, c, -, c1, hc4, hcm, hcc⟩ := HC.out i hlt (HV.out.sides (by omega))
            have c1 := cell_below hbw c1
            have c2 : _ = some (Value.int .i64 (sideZ S i d)) := cell_below hbw (hcc d hd4)
            unfold maxLen at hcm
            have hopp := oppZ_N hd4
            have hop4 := oppN_lt d
            have hd4i : ((d : Nat) : Int) < 4 := by omega
            have hop5 : ((oppN d : Nat) : Int) < 4 := by omega
            have HSD := Lib.hid (loN_side S n i d hd4)
            have hle2 := loN_le S n (i * 4 + d)
            have HZ := Lib.hid (metB_zero S i d)
            clear hcc
            go_wp2_with fail
            go_loopw [8, 9] (fun m x wr => ∃ k : Nat, k ≤ n ∧ x = .int .i64 k ∧ m = .bool (metB S i d k) ∧ At wr w.heap.size vg (.slice (some ⟨b, off, none⟩) n cap) ∧ Below w.heap.size w wr) (fun _ x _ => n - (intOf x).toNat)
            case atStart => exact ⟨0, by omega, rfl, by rw [HZ.out], HA.out, hbw⟩
            case round =>
              clear k0 k1 HA hbw c1 c2
              obtain ⟨k, hk, rfl, rfl, hat, hbw⟩ := hrel
              have HA := Lib.hid hat
              have sw := hbw.size
              have la := hat.lt
              obtain ⟨k0, k1⟩ := hat
              have HM := Lib.hid (metB_succ S i d k)
              by_cases hkn : k < n
              · obtain ⟨b3, o3, c', -, e1, he4, hem, hee⟩ := HC.out k hkn (HV.out.sides (by omega))
                have e1 := cell_below hbw e1
                have e2 : _ = some (Value.int .i64 (sideZ S k (oppN d))) := cell_below hbw (hee (oppN d) hop4)
                unfold maxLen at hem
                clear hee
                cases hm : metB S i d k
                · have HMM := Lib.hid hm
                  clear hm
                  cases hbb : (sideZ S k (oppN d) == sideZ S i d)
                  all_goals
                    have HBB := Lib.hid hbb
                    go_wp2_with fail
                    refine wp_region_held_drew (S := (fun w' => w'.cell? ⟨w.heap.size, 1, none⟩ = some (.slice (some ⟨b, off, none⟩) n cap) ∧ w'.cell? ⟨b, off + k * 2 + 1, none⟩ = some (.slice (some ⟨b3, o3, none⟩) 4 c') ∧ w'.cell? ⟨b3, o3 + oppN d, none⟩ = some (.int .i64 (sideZ S k (oppN d))))) (by kernel_rfl) ?_ (fun hHeld => ?_)
                    · (try dsimp only)
                      (((try go_split_ands); (try dsimp only); (repeat' apply And.intro)) <;> (repeat (first | with_reducible assumption | ((with_reducible refine cnew0 ?_); simp; done) | ((with_reducible refine cnew1 ?_); simp; done) | (with_reducible refine akeep ?_) | (with_reducible refine dkeep ?_) | ((with_reducible refine skeep ?_ ?_); rotate_left; (first | ((try dsimp only); omega) | (simp; done) | (simp; omega))) | (with_reducible refine bkeep hb3 ?_))))
                    refine wpAnyH_take (i := 0) (oi := ⟨_, _, _, _, _, _⟩) (v := ?_) rfl (by kernel_rfl) (by kernel_rfl) (by kernel_rfl) (fun _ _ _ h => h) (Or.inl ⟨by rfl, ?_⟩) (by assumption) ?_
                    rotate_left
                    · (intro w hSw; (try dsimp only at hSw); go_simp; (try with_reducible rfl))
                    (try simp only [Act.put, List.setIfInBounds_toArray, List.set_cons_zero, List.set_cons_succ])
                    refine wpAnyH_take (i := 1) (oi := ⟨_, _, _, _, _, _⟩) (v := ?_) rfl (by kernel_rfl) (by kernel_rfl) (by kernel_rfl) (fun _ _ _ h => h) (Or.inl ⟨by rfl, ?_⟩) (by assumption) ?_
                    rotate_left
                    · (intro w hSw; (try dsimp only at hSw); go_simp; (try with_reducible rfl))
                    (try simp only [Act.put, List.setIfInBounds_toArray, List.set_cons_zero, List.set_cons_succ])
                    refine wpAnyH_take (i := 2) (oi := ⟨_, _, _, _, _, _⟩) (v := ?_) rfl (by kernel_rfl) (by kernel_rfl) (by kernel_rfl) (fun _ _ _ h => h) (Or.inl ⟨by rfl, ?_⟩) (by assumption) ?_
                    rotate_left
                    · (intro w hSw; (try dsimp only at hSw); go_simp; (try with_reducible rfl))
                    (try simp only [Act.put, List.setIfInBounds_toArray, List.set_cons_zero, List.set_cons_succ])
                    refine wpAnyH_take (i := 3) (oi := ⟨_, _, _, _, _, _⟩) (v := ?_) rfl (by kernel_rfl) (by kernel_rfl) (by kernel_rfl) (fun _ _ _ h => h) (Or.inl ⟨by rfl, ?_⟩) (by assumption) ?_
                    rotate_left
                    · (intro w hSw; (try dsimp only at hSw); go_simp; (try with_reducible rfl))
                    (try simp only [Act.put, List.setIfInBounds_toArray, List.set_cons_zero, List.set_cons_succ])
                    refine wpAnyH_take (i := 4) (oi := ⟨_, _, _, _, _, _⟩) (v := ?_) rfl (by kernel_rfl) (by kernel_rfl) (by kernel_rfl) (fun _ _ _ h => h) (Or.inl ⟨by rfl, ?_⟩) (by assumption) ?_
                    rotate_left
                    · (intro w hSw; (try dsimp only at hSw); go_simp; (try with_reducible rfl))
                    (try simp only [Act.put, List.setIfInBounds_toArray, List.set_cons_zero, List.set_cons_succ])
                    refine wpAnyH_take (i := 5) (oi := ⟨_, _, _, _, _, _⟩) (v := ?_) rfl (by kernel_rfl) (by kernel_rfl) (by kernel_rfl) (fun _ _ _ h => h) (Or.inl ⟨by rfl, ?_⟩) (by assumption) ?_
                    rotate_left
                    · (intro w hSw; (try dsimp only at hSw); go_simp; (try with_reducible rfl))
                    (try simp only [Act.put, List.setIfInBounds_toArray, List.set_cons_zero, List.set_cons_succ])
                    refine wpAnyH_take (i := 6) (oi := ⟨_, _, _, _, _, _⟩) (v := ?_) rfl (by kernel_rfl) (by kernel_rfl) (by kernel_rfl) (fun _ _ _ h => h) (Or.inl ⟨by rfl, ?_⟩) (by assumption) ?_
                    rotate_left
                    · (intro w hSw; (try dsimp only at hSw); go_simp; (try with_reducible rfl))
                    (try simp only [Act.put, List.setIfInBounds_toArray, List.set_cons_zero, List.set_cons_succ])
                    refine wpAnyH_take (i := 7) (oi := ⟨_, _, _, _, _, _⟩) (v := ?_) rfl (by kernel_rfl) (by kernel_rfl) (by kernel_rfl) (fun _ _ _ h => h) (Or.inl ⟨by rfl, ?_⟩) (by assumption) ?_
                    rotate_left
                    · (intro w hSw; (try dsimp only at hSw); go_simp; (try with_reducible rfl))
                    (try simp only [Act.put, List.setIfInBounds_toArray, List.set_cons_zero, List.set_cons_succ])
                    refine wpAnyH_take (i := 8) (oi := ⟨_, _, _, _, _, _⟩) (v := ?_) rfl (by kernel_rfl) (by kernel_rfl) (by kernel_rfl) (fun _ _ _ h => h) (Or.inl ⟨by rfl, ?_⟩) (by assumption) ?_
                    rotate_left
                    · (intro w hSw; (try dsimp only at hSw); go_simp; (try with_reducible rfl))
                    (try simp only [Act.put, List.setIfInBounds_toArray, List.set_cons_zero, List.set_cons_succ])
                    refine wpAnyH_take (i := 12) (oi := ⟨_, _, _, _, _, _⟩) (v := ?_) rfl (by kernel_rfl) (by kernel_rfl) (by kernel_rfl) (fun _ _ _ h => h) (Or.inl ⟨by rfl, ?_⟩) (by assumption) ?_
                    rotate_left
                    · (intro w hSw; (try dsimp only at hSw); go_simp; (try with_reducible rfl))
                    (try simp only [Act.put, List.setIfInBounds_toArray, List.set_cons_zero, List.set_cons_succ])
                    refine wpAnyH_ready (rs := [9]) (by kernel_rfl) (by simp) ?_
                    refine AllReadyH.cons (o := ⟨_, _, _, _, _, _⟩) rfl (fun K hK => ?_) AllReadyH.nil
                    go_simp
                    (go_at_call 76; refine (specOpp_any _ _).mono ?_; rintro e w' ⟨rfl, rfl⟩; rw [hopp])
                    refine hK.out _ _ ?_ (fun hHeld => ?_)
                    · (try dsimp only)
                      (((try go_split_ands); (try dsimp only); (repeat' apply And.intro)) <;> (repeat (first | with_reducible assumption | ((with_reducible refine cnew0 ?_); simp; done) | ((with_reducible refine cnew1 ?_); simp; done) | (with_reducible refine akeep ?_) | (with_reducible refine dkeep ?_) | ((with_reducible refine skeep ?_ ?_); rotate_left; (first | ((try dsimp only); omega) | (simp; done) | (simp; omega))) | (with_reducible refine bkeep hb3 ?_))))
                    clear hK K
                    (try simp only [Act.put, List.setIfInBounds_toArray, List.set_cons_zero, List.set_cons_succ])
                    refine wpAnyH_take (i := 10) (oi := ⟨_, _, _, _, _, _⟩) (v := ?_) rfl (by kernel_rfl) (by kernel_rfl) (by kernel_rfl) (fun _ _ _ h => h) (Or.inl ⟨by rfl, ?_⟩) (by assumption) ?_
                    rotate_left
                    · (intro w hSw; (try dsimp only at hSw); go_simp; (try with_reducible rfl))
                    (try simp only [Act.put, List.setIfInBounds_toArray, List.set_cons_zero, List.set_cons_succ])
                    refine wpAnyH_take (i := 11) (oi := ⟨_, _, _, _, _, _⟩) (v := ?_) rfl (by kernel_rfl) (by kernel_rfl) (by kernel_rfl) (fun _ _ _ h => h) (Or.inl ⟨by rfl, ?_⟩) (by assumption) ?_
                    rotate_left
                    · (intro w hSw; (try dsimp only at hSw); go_simp; (try with_reducible rfl))
                    (try simp only [Act.put, List.setIfInBounds_toArray, List.set_cons_zero, List.set_cons_succ])
                    refine wpAnyH_take (i := 13) (oi := ⟨_, _, _, _, _, _⟩) (v := ?_) rfl (by kernel_rfl) (by kernel_rfl) (by kernel_rfl) (fun _ _ _ h => h) (Or.inl ⟨by rfl, ?_⟩) (by assumption) ?_
                    rotate_left
                    · (intro w hSw; (try dsimp only at hSw); go_simp; (try with_reducible rfl))
                    (try simp only [Act.put, List.setIfInBounds_toArray, List.set_cons_zero, List.set_cons_succ])
                    refine wpAnyH_take (i := 14) (oi := ⟨_, _, _, _, _, _⟩) (v := ?_) rfl (by kernel_rfl) (by kernel_rfl) (by kernel_rfl) (fun _ _ _ h => h) (Or.inl ⟨by rfl, ?_⟩) (by assumption) ?_
                    rotate_left
                    · (intro w hSw; (try dsimp only at hSw); go_simp; (try with_reducible rfl))
                    (try simp only [Act.put, List.setIfInBounds_toArray, List.set_cons_zero, List.set_cons_succ])
                    refine wpAnyH_take (i := 15) (oi := ⟨_, _, _, _, _, _⟩) (v := ?_) rfl (by kernel_rfl) (by kernel_rfl) (by kernel_rfl) (fun _ _ _ h => h) (Or.inl ⟨by rfl, ?_⟩) (by assumption) ?_
                    rotate_left
                    · (intro w hSw; (try dsimp only at hSw); go_simp; (try with_reducible rfl))
                    (try simp only [Act.put, List.setIfInBounds_toArray, List.set_cons_zero, List.set_cons_succ])
                    refine wpAnyH_done (by kernel_rfl) ?_ _
                    go_wp2_with fail
                    go_roundw
                    case rel => exact ⟨k + 1, by omega, by go_num, by rw [HM.out, HMM.out, HBB.out]; rfl, HA.out.below (by (repeat (first | exact Below.refl _ _ | refine Below.setCell ?_ (by first | (simp; done) | (simp; omega) | omega) _ | refine belowN ?_ _ | refine Below.drew ?_ | refine Below.alloc ?_ (by first | (simp; done) | (simp; omega) | omega) _ | refine Below.trans ?_ (Below.mono (by assumption) (by first | (simp; done) | (simp; omega) | omega))))), by (repeat (first | exact Below.refl _ _ | refine Below.setCell ?_ (by first | (simp; done) | (simp; omega) | omega) _ | refine belowN ?_ _ | refine Below.drew ?_ | refine Below.alloc ?_ (by first | (simp; done) | (simp; omega) | omega) _ | refine Below.trans ?_ (Below.mono (by assumption) (by first | (simp; done) | (simp; omega) | omega))))⟩
                    case measure => simp [intOf]; omega
                · have HMM := Lib.hid hm
                  clear hm
                  go_wp2_with fail
                  refine wp_region_held_drew (S := (fun w' => w'.cell? ⟨w.heap.size, 1, none⟩ = some (.slice (some ⟨b, off, none⟩) n cap))) (by kernel_rfl) ?_ (fun hHeld => ?_)
                  · (try dsimp only)
                    (((try go_split_ands); (try dsimp only); (repeat' apply And.intro)) <;> (repeat (first | with_reducible assumption | ((with_reducible refine cnew0 ?_); simp; done) | ((with_reducible refine cnew1 ?_); simp; done) | (with_reducible refine akeep ?_) | (with_reducible refine dkeep ?_) | ((with_reducible refine skeep ?_ ?_); rotate_left; (first | ((try dsimp only); omega) | (simp; done) | (simp; omega))) | (with_reducible refine bkeep hb3 ?_))))
                  refine wpAnyH_take (i := 0) (oi := ⟨_, _, _, _, _, _⟩) (v := ?_) rfl (by kernel_rfl) (by kernel_rfl) (by kernel_rfl) (fun _ _ _ h => h) (Or.inl ⟨by rfl, ?_⟩) (by assumption) ?_
                  rotate_left
                  · (intro w hSw; (try dsimp only at hSw); go_simp; (try with_reducible rfl))
                  (try simp only [Act.put, List.setIfInBounds_toArray, List.set_cons_zero, List.set_cons_succ])
                  refine wpAnyH_take (i := 1) (oi := ⟨_, _, _, _, _, _⟩) (v := ?_) rfl (by kernel_rfl) (by kernel_rfl) (by kernel_rfl) (fun _ _ _ h => h) (Or.inl ⟨by rfl, ?_⟩) (by assumption) ?_
                  rotate_left
                  · (intro w hSw; (try dsimp only at hSw); go_simp; (try with_reducible rfl))
                  (try simp only [Act.put, List.setIfInBounds_toArray, List.set_cons_zero, List.set_cons_succ])
                  refine wpAnyH_take (i := 2) (oi := ⟨_, _, _, _, _, _⟩) (v := undef) rfl (by kernel_rfl) (by kernel_rfl) (by kernel_rfl) (fun _ _ _ h => h) (Or.inr ⟨by rfl, rfl⟩) (by assumption) ?_
                  (try simp only [Act.put, List.setIfInBounds_toArray, List.set_cons_zero, List.set_cons_succ])
                  refine wpAnyH_take (i := 3) (oi := ⟨_, _, _, _, _, _⟩) (v := undef) rfl (by kernel_rfl) (by kernel_rfl) (by kernel_rfl) (fun _ _ _ h => h) (Or.inr ⟨by rfl, rfl⟩) (by assumption) ?_
                  (try simp only [Act.put, List.setIfInBounds_toArray, List.set_cons_zero, List.set_cons_succ])
                  refine wpAnyH_take (i := 4) (oi := ⟨_, _, _, _, _, _⟩) (v := undef) rfl (by kernel_rfl) (by kernel_rfl) (by kernel_rfl) (fun _ _ _ h => h) (Or.inr ⟨by rfl, rfl⟩) (by assumption) ?_
                  (try simp only [Act.put, List.setIfInBounds_toArray, List.set_cons_zero, List.set_cons_succ])
                  refine wpAnyH_take (i := 5) (oi := ⟨_, _, _, _, _, _⟩) (v := undef) rfl (by kernel_rfl) (by kernel_rfl) (by kernel_rfl) (fun _ _ _ h => h) (Or.inr ⟨by rfl, rfl⟩) (by assumption) ?_
                  (try simp only [Act.put, List.setIfInBounds_toArray, List.set_cons_zero, List.set_cons_succ])
                  refine wpAnyH_take (i := 6) (oi := ⟨_, _, _, _, _, _⟩) (v := undef) rfl (by kernel_rfl) (by kernel_rfl) (by kernel_rfl) (fun _ _ _ h => h) (Or.inr ⟨by rfl, rfl⟩) (by assumption) ?_
                  (try simp only [Act.put, List.setIfInBounds_toArray, List.set_cons_zero, List.set_cons_succ])
                  refine wpAnyH_take (i := 7) (oi := ⟨_, _, _, _, _, _⟩) (v := undef) rfl (by kernel_rfl) (by kernel_rfl) (by kernel_rfl) (fun _ _ _ h => h) (Or.inr ⟨by rfl, rfl⟩) (by assumption) ?_
                  (try simp only [Act.put, List.setIfInBounds_toArray, List.set_cons_zero, List.set_cons_succ])
                  refine wpAnyH_take (i := 8) (oi := ⟨_, _, _, _, _, _⟩) (v := undef) rfl (by kernel_rfl) (by kernel_rfl) (by kernel_rfl) (fun _ _ _ h => h) (Or.inr ⟨by rfl, rfl⟩) (by assumption) ?_
                  (try simp only [Act.put, List.setIfInBounds_toArray, List.set_cons_zero, List.set_cons_succ])
                  refine wpAnyH_take (i := 9) (oi := ⟨_, _, _, _, _, _⟩) (v := undef) rfl (by kernel_rfl) (by kernel_rfl) (by kernel_rfl) (fun _ _ _ h => h) (Or.inr ⟨by rfl, rfl⟩) (by assumption) ?_
                  (try simp only [Act.put, List.setIfInBounds_toArray, List.set_cons_zero, List.set_cons_succ])
                  refine wpAnyH_take (i := 10) (oi := ⟨_, _, _, _, _, _⟩) (v := undef) rfl (by kernel_rfl) (by kernel_rfl) (by kernel_rfl) (fun _ _ _ h => h) (Or.inr ⟨by rfl, rfl⟩) (by assumption) ?_
                  (try simp only [Act.put, List.setIfInBounds_toArray, List.set_cons_zero, List.set_cons_succ])
                  refine wpAnyH_take (i := 11) (oi := ⟨_, _, _, _, _, _⟩) (v := undef) rfl (by kernel_rfl) (by kernel_rfl) (by kernel_rfl) (fun _ _ _ h => h) (Or.inr ⟨by rfl, rfl⟩) (by assumption) ?_
                  (try simp only [Act.put, List.setIfInBounds_toArray, List.set_cons_zero, List.set_cons_succ])
                  refine wpAnyH_take (i := 12) (oi := ⟨_, _, _, _, _, _⟩) (v := undef) rfl (by kernel_rfl) (by kernel_rfl) (by kernel_rfl) (fun _ _ _ h => h) (Or.inr ⟨by rfl, rfl⟩) (by assumption) ?_
                  (try simp only [Act.put, List.setIfInBounds_toArray, List.set_cons_zero, List.set_cons_succ])
                  refine wpAnyH_take (i := 13) (oi := ⟨_, _, _, _, _, _⟩) (v := undef) rfl (by kernel_rfl) (by kernel_rfl) (by kernel_rfl) (fun _ _ _ h => h) (Or.inr ⟨by rfl, rfl⟩) (by assumption) ?_
                  (try simp only [Act.put, List.setIfInBounds_toArray, List.set_cons_zero, List.set_cons_succ])
                  refine wpAnyH_take (i := 14) (oi := ⟨_, _, _, _, _, _⟩) (v := ?_) rfl (by kernel_rfl) (by kernel_rfl) (by kernel_rfl) (fun _ _ _ h => h) (Or.inl ⟨by rfl, ?_⟩) (by assumption) ?_
                  rotate_left
                  · (intro w hSw; (try dsimp only at hSw); go_simp; (try with_reducible rfl))
                  (try simp only [Act.put, List.setIfInBounds_toArray, List.set_cons_zero, List.set_cons_succ])
                  refine wpAnyH_take (i := 15) (oi := ⟨_, _, _, _, _, _⟩) (v := ?_) rfl (by kernel_rfl) (by kernel_rfl) (by kernel_rfl) (fun _ _ _ h => h) (Or.inl ⟨by rfl, ?_⟩) (by assumption) ?_
                  rotate_left
                  · (intro w hSw; (try dsimp only at hSw); go_simp; (try with_reducible rfl))
                  (try simp only [Act.put, List.setIfInBounds_toArray, List.set_cons_zero, List.set_cons_succ])
                  refine wpAnyH_done (by kernel_rfl) ?_ _
                  go_wp2_with fail
                  go_roundw
                  case rel => exact ⟨k + 1, by omega, by go_num, by rw [HM.out, HMM.out]; rfl, HA.out.below (by (repeat (first | exact Below.refl _ _ | refine Below.setCell ?_ (by first | (simp; done) | (simp; omega) | omega) _ | refine belowN ?_ _ | refine Below.drew ?_ | refine Below.alloc ?_ (by first | (simp; done) | (simp; omega) | omega) _ | refine Below.trans ?_ (Below.mono (by assumption) (by first | (simp; done) | (simp; omega) | omega))))), by (repeat (first | exact Below.refl _ _ | refine Below.setCell ?_ (by first | (simp; done) | (simp; omega) | omega) _ | refine belowN ?_ _ | refine Below.drew ?_ | refine Below.alloc ?_ (by first | (simp; done) | (simp; omega) | omega) _ | refine Below.trans ?_ (Below.mono (by assumption) (by first | (simp; done) | (simp; omega) | omega))))⟩
                  case measure => simp [intOf]; omega
              · obtain rfl : k = n := by omega
                cases hm : metB S i d k
                · have HMM := Lib.hid hm
                  clear hm
                  have ew : IntKind.i64.wrap (((loN S k (i * 4 + d) : Nat) : Int) + 1) = ((loN S k (i * 4 + d) : Nat) : Int) + 1 := IntWalk.i64_in _ (by omega)
                  go_wp2_with fail
                  go_roundw
                  case rel => exact ⟨d + 1, by omega, by go_num, by rw [show i * 4 + (d + 1) = i * 4 + d + 1 by omega, HSD.out, HMM.out]; go_num, HA.out, hbw⟩
                  case measure => simp [intOf]; omega
                · have HMM := Lib.hid hm
                  clear hm
                  go_wp2_with fail
                  go_roundw
                  case rel => exact ⟨d + 1, by omega, by go_num, by rw [show i * 4 + (d + 1) = i * 4 + d + 1 by omega, HSD.out, HMM.out]; rfl, HA.out, hbw⟩
                  case measure => simp [intOf]; omega
          · obtain rfl : d = 4 := by omega
            go_wp2_with fail
            go_roundw
            case rel => exact ⟨i + 1, by omega, by go_num, by rw [show (i + 1) * 4 = i * 4 + 4 by omega], HA.out, hbw⟩
            case measure => simp [intOf]; omega
      · obtain rfl : i = n := by omega
        go_wp2_with fail
        go_ret2
        exact ⟨by rw [K.out.1, K.out.2]; rfl, hbw⟩

end Go.Proofs.Ytaeaflbmaokieab
