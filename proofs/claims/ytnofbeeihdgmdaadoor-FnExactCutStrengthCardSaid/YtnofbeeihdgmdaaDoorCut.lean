/-
  The strength of the bonds between a part of an assembly and the rest, the model's and the program's. Conditions: each theorem's own; the program's reads the listed table of steps.
-/
import Derived.Test.YtnofbeeihdgmdaaDoorTot
import Derived.Test.YtnofbeeihdgmdaaDoorPart
namespace Go.Proofs.YtnofbeeihdgmdaaDoor
open Go.RowKit Go.Shelf
attribute [local go_sem] Oper.semAt_some

open Classical in
/-- Is the number in the list? -/
noncomputable def hasI (zs : List Int) (a : Int) : Bool := decide (∃ i, i < zs.length ∧ iAt zs i = a)
theorem hasI_yes {zs : List Int} {a : Int} {i : Nat} (hi : i < zs.length) (h : iAt zs i = a) : hasI zs a = true := decide_eq_true ⟨i, hi, h⟩
theorem hasI_no {zs : List Int} {a : Int} (h : ∀ i, i < zs.length → iAt zs i ≠ a) : hasI zs a = false := decide_eq_false fun ⟨i, hi, he⟩ => h i hi he
/-- What a bond adds to the cut. -/
noncomputable def cutX (zs : List Int) (x : Bd) : Int := if hasI zs x.a = hasI zs x.b then 0 else x.s
noncomputable def cutS (zs : List Int) (L : List Bd) : Int := (L.map (cutX zs)).sum
theorem cutS_snoc (zs : List Int) (L : List Bd) (x : Bd) : cutS zs (L ++ [x]) = cutS zs L + cutX zs x := by simp [cutS]
theorem cutS_in (zs : List Int) {L : List Bd} (h : ∀ x ∈ L, 0 ≤ x.s ∧ x.s ≤ 4) : 0 ≤ cutS zs L ∧ cutS zs L ≤ 4 * L.length := by
  induction L with
  | nil => simp [cutS]
  | cons x L ih =>
    have a := ih fun y hy => h y (List.mem_cons_of_mem _ hy)
    have b := h x (List.mem_cons_self ..)
    have c : 0 ≤ cutX zs x ∧ cutX zs x ≤ 4 := by unfold cutX; split <;> omega
    simp only [cutS, List.map_cons, List.sum_cons, List.length_cons] at a ⊢
    omega
theorem cutS_pre {S : Set_} {ps : List Pl} (zs : List Int) (h : Va S ps) {L : List Bd} (hL : L <+: bdsT S ps (tcs ps ps.length)) : 0 ≤ cutS zs L ∧ cutS zs L ≤ 4000 := by
  have a := cutS_in zs (L := L) fun x hx => (bdsT_mem h (hL.subset hx)).2.2
  have b := hL.length_le
  have c := bdsT_small (S := S) (List.prefix_refl (tcs ps ps.length)) h.F.len
  omega
open Classical in
/-- CutStrength: the code and the sum. -/
noncomputable def cuC (S : Set_) (ps : List Pl) (zs : List Int) : Int := if vaB S ps = true then (if riseB zs 0 ((ps.length : Int) - 1) = true then 0 else 2) else 1
open Classical in
noncomputable def cuR (S : Set_) (ps : List Pl) (zs : List Int) : Int := if cuC S ps zs = 0 then cutS zs (bdsT S ps (tcs ps ps.length)) else 0
theorem cu_1 {S : Set_} {ps : List Pl} {zs : List Int} (h : vaB S ps = false) : cuC S ps zs = 1 ∧ cuR S ps zs = 0 := by simp [cuC, cuR, h]
theorem cu_2 {S : Set_} {ps : List Pl} {zs : List Int} (h : vaB S ps = true) (h2 : riseB zs 0 ((ps.length : Int) - 1) = false) : cuC S ps zs = 2 ∧ cuR S ps zs = 0 := by simp [cuC, cuR, h, h2]
theorem cu_0 {S : Set_} {ps : List Pl} {zs : List Int} (h : vaB S ps = true) (h2 : riseB zs 0 ((ps.length : Int) - 1) = true) : cuC S ps zs = 0 ∧ cuR S ps zs = cutS zs (bdsT S ps (tcs ps ps.length)) := by simp [cuC, cuR, h, h2]

set_option maxHeartbeats 800000 in
theorem l00Has_any (v : Value) (zs : List Int) (a : Int) (w : World) (hv : Ints w v zs) (hz : zs.length ≤ 1048576) :
    Calls Tryd.prog 96 #[v, .int .i64 a] w fun e w' => e = .returned (.bool (hasI zs a)) ∧ Below w.heap.size w w' := by
  obtain ⟨ao, cap, rfl, hl, hm, hc⟩ := hv.open_
  unfold maxLen at hm
  have H0 := Lib.hid hc
  clear hc hv
  go_enter Tryd.func96, Tryd.ntmps96
  go_wp2_with fail
  go_loop [5] (fun i => ∃ k : Nat, k ≤ zs.length ∧ i = .int .i64 k ∧ Hid (∀ j, j < k → iAt zs j ≠ a)) (fun i => zs.length - (intOf i).toNat)
  case atStart => exact ⟨0, by omega, rfl, Lib.hid (fun j hj => by omega)⟩
  case round =>
    obtain ⟨k, hk, rfl, hall⟩ := hrel
    by_cases hlt : k < zs.length
    · obtain ⟨b, off, rfl, H1⟩ := H0.out (by omega)
      have c0 := H1 k hlt
      by_cases he : iAt zs k = a
      · have K := Lib.hid (hasI_yes hlt he)
        rw [he] at c0
        clear H1 he
        go_wp2_with fail
        go_ret
        exact ⟨ret_bool (by rw [K.out]), by (repeat (first | exact Below.refl _ _ | refine Below.setCell ?_ (by first | (simp; done) | (simp; omega) | omega) _ | refine belowN ?_ _ | refine Below.drew ?_ | refine Below.alloc ?_ (by first | (simp; done) | (simp; omega) | omega) _ | refine Below.trans ?_ (Below.mono (by assumption) (by first | (simp; done) | (simp; omega) | omega))))⟩
      · have bn : (iAt zs k == a) = false := by rw [beq_eq_false_iff_ne]; exact he
        have HE := Lib.hid he
        clear H1 he
        go_wp2_with fail
        go_round
        case rel =>
          refine ⟨k + 1, by omega, by go_num, Lib.hid fun j hj => ?_⟩
          by_cases hjk : j < k
          · exact hall.out j hjk
          · obtain rfl : j = k := by omega
            exact HE.out
        case measure => simp [intOf]; omega
    · obtain rfl : k = zs.length := by omega
      have K := Lib.hid (hasI_no hall.out)
      go_wp2_with fail
      go_ret
      exact ⟨ret_bool (by rw [K.out]), by (repeat (first | exact Below.refl _ _ | refine Below.setCell ?_ (by first | (simp; done) | (simp; omega) | omega) _ | refine belowN ?_ _ | refine Below.drew ?_ | refine Below.alloc ?_ (by first | (simp; done) | (simp; omega) | omega) _ | refine Below.trans ?_ (Below.mono (by assumption) (by first | (simp; done) | (simp; omega) | omega))))⟩

set_option maxRecDepth 100000 in
set_option maxHeartbeats 4000000 in
set_option linter.unusedSimpArgs false in
theorem l06Cut_any (v u : Value) (L : List Bd) (zs : List Int) (w : World) (hv : Cl w 3 v L.length (bC L)) (hu : Ints w u zs) (hz : zs.length ≤ 1048576) (hLn : L.length ≤ 1000) (hP : ∀ M, M <+: L → 0 ≤ cutS zs M ∧ cutS zs M ≤ 4000) :
    Calls Tryd.prog 64 #[v, u] w fun e w' => e = .returned (.int .i64 (cutS zs L)) ∧ Below w.heap.size w w' := by
  have HU := Lib.hid hu
  have HP := Lib.hid hP
  obtain ⟨ao, cap, rfl, hl, hm, hc⟩ := hv
  unfold maxLen at hm
  have H0 := Lib.hid hc
  clear hc hu hP
  go_enter Tryd.func64, Tryd.ntmps64
  go_wp2_with fail
  go_loopw [5, 6] (fun s i wr => ∃ k : Nat, k ≤ L.length ∧ i = .int .i64 k ∧ (∃ m : Int, m = cutS zs (L.take k) ∧ s = .int .i64 m) ∧ Below w.heap.size w wr) (fun _ i _ => L.length - (intOf i).toNat)
  case atStart => exact ⟨0, by omega, rfl, ⟨0, by simp [cutS], rfl⟩, by (repeat (first | exact Below.refl _ _ | refine Below.setCell ?_ (by first | (simp; done) | (simp; omega) | omega) _ | refine belowN ?_ _ | refine Below.drew ?_ | refine Below.alloc ?_ (by first | (simp; done) | (simp; omega) | omega) _ | refine Below.trans ?_ (Below.mono (by assumption) (by first | (simp; done) | (simp; omega) | omega))))⟩
  case round =>
    obtain ⟨k, hk, rfl, ⟨m, hm2, rfl⟩, hbw⟩ := hrel
    have sw := hbw.size
    have hin := HP.out (L.take k) (List.take_prefix _ _)
    rw [← hm2] at hin
    have HM := Lib.hid hm2
    clear hm2
    by_cases hlt : k < L.length
    · obtain ⟨b, off, rfl, H1⟩ := H0.out (by omega)
      have c0 := cell_below hbw (H1 k 0 hlt (by omega))
      have c1 := cell_below hbw (H1 k 1 hlt (by omega))
      have c2 := cell_below hbw (H1 k 2 hlt (by omega))
      rw [Nat.add_zero] at c0
      have hin2 := HP.out (L.take (k + 1)) (List.take_prefix _ _)
      rw [take_snoc hlt, cutS_snoc, ← HM.out] at hin2
      have HS2 := Lib.hid (show cutS zs (L.take (k + 1)) = m + cutX zs (L.getD k default) by rw [take_snoc hlt, cutS_snoc, ← HM.out])
      have hx0 : bC L k 0 = ((L.getD k default).a : Int) := rfl
      have hx1 : bC L k 1 = ((L.getD k default).b : Int) := rfl
      have hx2 : bC L k 2 = (L.getD k default).s := rfl
      rw [hx0] at c0
      rw [hx1] at c1
      rw [hx2] at c2
      have hcx : cutX zs (L.getD k default) = if hasI zs (L.getD k default).a = hasI zs (L.getD k default).b then 0 else (L.getD k default).s := rfl
      generalize cutX zs (L.getD k default) = y at *
      generalize L.getD k default = x at *
      obtain ⟨ca, hca⟩ : ∃ c, hasI zs x.a = c := ⟨_, rfl⟩
      obtain ⟨cb, hcb⟩ : ∃ c, hasI zs x.b = c := ⟨_, rfl⟩
      rw [hca, hcb] at hcx
      have HCA := Lib.hid hca
      have HCB := Lib.hid hcb
      clear H1 hx0 hx1 hx2 hca hcb
      by_cases hd : ca = cb
      · have hy : y = 0 := by rw [hcx, if_pos hd]
        subst hd
        clear hcx
        go_wp2_with fail
        refine wp_region_held_drew (S := (fun w' => w'.cell? ⟨b, off + k * 3, none⟩ = some (.int .i64 (x.a : Int)) ∧ w'.cell? ⟨b, off + k * 3 + 1, none⟩ = some (.int .i64 (x.b : Int)))) (by kernel_rfl) ?_ (fun hHeld => ?_)
        · (try dsimp only)
          (((try go_split_ands); (try dsimp only); (repeat' apply And.intro)) <;> (repeat (first | with_reducible assumption | ((with_reducible refine cnew0 ?_); simp; done) | ((with_reducible refine cnew1 ?_); simp; done) | (with_reducible refine akeep ?_) | (with_reducible refine dkeep ?_) | ((with_reducible refine skeep ?_ ?_); rotate_left; (first | ((try dsimp only); omega) | (simp; done) | (simp; omega))) | (with_reducible refine bkeep hb3 ?_))))
        refine wpAnyH_take (i := 0) (oi := ⟨_, _, _, _, _, _⟩) (v := ?_) rfl (by kernel_rfl) (by kernel_rfl) (by kernel_rfl) (fun _ _ _ h => h) (Or.inl ⟨by rfl, ?_⟩) (by assumption) ?_
        rotate_left
        · (intro w hSw; (try dsimp only at hSw); go_simp; (try with_reducible rfl))
        (try simp only [Act.put, List.setIfInBounds_toArray, List.set_cons_zero, List.set_cons_succ])
        refine wpAnyH_take (i := 1) (oi := ⟨_, _, _, _, _, _⟩) (v := ?_) rfl (by kernel_rfl) (by kernel_rfl) (by kernel_rfl) (fun _ _ _ h => h) (Or.inl ⟨by rfl, ?_⟩) (by assumption) ?_
        rotate_left
        · (intro w hSw; (try dsimp only at hSw); go_simp; (try with_reducible rfl))
        (try simp only [Act.put, List.setIfInBounds_toArray, List.set_cons_zero, List.set_cons_succ])
        refine wpAnyH_take (i := 2) (oi := ⟨_, _, _, _, _, _⟩) (v := ?_) rfl (by kernel_rfl) (by kernel_rfl) (by kernel_rfl) (fun _ _ _ h => h) (Or.inl ⟨by rfl, ?_⟩) (by assumption) ?_
        rotate_left
        · (intro w hSw; (try dsimp only at hSw); go_simp; (try with_reducible rfl))
        (try simp only [Act.put, List.setIfInBounds_toArray, List.set_cons_zero, List.set_cons_succ])
        refine wpAnyH_take (i := 3) (oi := ⟨_, _, _, _, _, _⟩) (v := ?_) rfl (by kernel_rfl) (by kernel_rfl) (by kernel_rfl) (fun _ _ _ h => h) (Or.inl ⟨by rfl, ?_⟩) (by assumption) ?_
        rotate_left
        · (intro w hSw; (try dsimp only at hSw); go_simp; (try with_reducible rfl))
        (try simp only [Act.put, List.setIfInBounds_toArray, List.set_cons_zero, List.set_cons_succ])
        refine wpAnyH_take (i := 4) (oi := ⟨_, _, _, _, _, _⟩) (v := ?_) rfl (by kernel_rfl) (by kernel_rfl) (by kernel_rfl) (fun _ _ _ h => h) (Or.inl ⟨by rfl, ?_⟩) (by assumption) ?_
        rotate_left
        · (intro w hSw; (try dsimp only at hSw); go_simp; (try with_reducible rfl))
        (try simp only [Act.put, List.setIfInBounds_toArray, List.set_cons_zero, List.set_cons_succ])
        refine wpAnyH_take (i := 5) (oi := ⟨_, _, _, _, _, _⟩) (v := ?_) rfl (by kernel_rfl) (by kernel_rfl) (by kernel_rfl) (fun _ _ _ h => h) (Or.inl ⟨by rfl, ?_⟩) (by assumption) ?_
        rotate_left
        · (intro w hSw; (try dsimp only at hSw); go_simp; (try with_reducible rfl))
        (try simp only [Act.put, List.setIfInBounds_toArray, List.set_cons_zero, List.set_cons_succ])
        refine wpAnyH_take (i := 7) (oi := ⟨_, _, _, _, _, _⟩) (v := ?_) rfl (by kernel_rfl) (by kernel_rfl) (by kernel_rfl) (fun _ _ _ h => h) (Or.inl ⟨by rfl, ?_⟩) (by assumption) ?_
        rotate_left
        · (intro w hSw; (try dsimp only at hSw); go_simp; (try with_reducible rfl))
        (try simp only [Act.put, List.setIfInBounds_toArray, List.set_cons_zero, List.set_cons_succ])
        refine wpAnyH_take (i := 8) (oi := ⟨_, _, _, _, _, _⟩) (v := ?_) rfl (by kernel_rfl) (by kernel_rfl) (by kernel_rfl) (fun _ _ _ h => h) (Or.inl ⟨by rfl, ?_⟩) (by assumption) ?_
        rotate_left
        · (intro w hSw; (try dsimp only at hSw); go_simp; (try with_reducible rfl))
        (try simp only [Act.put, List.setIfInBounds_toArray, List.set_cons_zero, List.set_cons_succ])
        refine wpAnyH_take (i := 9) (oi := ⟨_, _, _, _, _, _⟩) (v := ?_) rfl (by kernel_rfl) (by kernel_rfl) (by kernel_rfl) (fun _ _ _ h => h) (Or.inl ⟨by rfl, ?_⟩) (by assumption) ?_
        rotate_left
        · (intro w hSw; (try dsimp only at hSw); go_simp; (try with_reducible rfl))
        (try simp only [Act.put, List.setIfInBounds_toArray, List.set_cons_zero, List.set_cons_succ])
        refine wpAnyH_take (i := 10) (oi := ⟨_, _, _, _, _, _⟩) (v := ?_) rfl (by kernel_rfl) (by kernel_rfl) (by kernel_rfl) (fun _ _ _ h => h) (Or.inl ⟨by rfl, ?_⟩) (by assumption) ?_
        rotate_left
        · (intro w hSw; (try dsimp only at hSw); go_simp; (try with_reducible rfl))
        (try simp only [Act.put, List.setIfInBounds_toArray, List.set_cons_zero, List.set_cons_succ])
        refine wpAnyH_take (i := 11) (oi := ⟨_, _, _, _, _, _⟩) (v := ?_) rfl (by kernel_rfl) (by kernel_rfl) (by kernel_rfl) (fun _ _ _ h => h) (Or.inl ⟨by rfl, ?_⟩) (by assumption) ?_
        rotate_left
        · (intro w hSw; (try dsimp only at hSw); go_simp; (try with_reducible rfl))
        (try simp only [Act.put, List.setIfInBounds_toArray, List.set_cons_zero, List.set_cons_succ])
        refine wpAnyH_take (i := 12) (oi := ⟨_, _, _, _, _, _⟩) (v := ?_) rfl (by kernel_rfl) (by kernel_rfl) (by kernel_rfl) (fun _ _ _ h => h) (Or.inl ⟨by rfl, ?_⟩) (by assumption) ?_
        rotate_left
        · (intro w hSw; (try dsimp only at hSw); go_simp; (try with_reducible rfl))
        (try simp only [Act.put, List.setIfInBounds_toArray, List.set_cons_zero, List.set_cons_succ])
        refine wpAnyH_ready (rs := [6]) (by kernel_rfl) (by simp) ?_
        refine AllReadyH.cons (o := ⟨_, _, _, _, _, _⟩) rfl (fun K hK => ?_) AllReadyH.nil
        go_simp
        (go_at_call 96; refine (l00Has_any _ zs x.a _ (HU.out.below (show Below w.heap.size w _ by (repeat (first | exact Below.refl _ _ | refine Below.setCell ?_ (by first | (simp; done) | (simp; omega) | omega) _ | refine belowN ?_ _ | refine Below.drew ?_ | refine Below.alloc ?_ (by first | (simp; done) | (simp; omega) | omega) _ | refine Below.trans ?_ (Below.mono (by assumption) (by first | (simp; done) | (simp; omega) | omega)))))) hz).mono ?_; rintro e w3 ⟨rfl, hb3⟩; rw [HCA.out]; have s3 : wr.heap.size ≤ w3.heap.size := hb3.size)
        refine hK.out _ _ ?_ (fun hHeld => ?_)
        · (try dsimp only)
          (((try go_split_ands); (try dsimp only); (repeat' apply And.intro)) <;> (repeat (first | with_reducible assumption | ((with_reducible refine cnew0 ?_); simp; done) | ((with_reducible refine cnew1 ?_); simp; done) | (with_reducible refine akeep ?_) | (with_reducible refine dkeep ?_) | ((with_reducible refine skeep ?_ ?_); rotate_left; (first | ((try dsimp only); omega) | (simp; done) | (simp; omega))) | (with_reducible refine bkeep hb3 ?_))))
        clear hK K
        (try simp only [Act.put, List.setIfInBounds_toArray, List.set_cons_zero, List.set_cons_succ])
        refine wpAnyH_ready (rs := [13]) (by kernel_rfl) (by simp) ?_
        refine AllReadyH.cons (o := ⟨_, _, _, _, _, _⟩) rfl (fun K hK => ?_) AllReadyH.nil
        go_simp
        (go_at_call 96; refine (l00Has_any _ zs x.b _ (HU.out.below (show Below w.heap.size w _ by (repeat (first | exact Below.refl _ _ | refine Below.setCell ?_ (by first | (simp; done) | (simp; omega) | omega) _ | refine belowN ?_ _ | refine Below.drew ?_ | refine Below.alloc ?_ (by first | (simp; done) | (simp; omega) | omega) _ | refine Below.trans ?_ (Below.mono (by assumption) (by first | (simp; done) | (simp; omega) | omega)))))) hz).mono ?_; rintro e w4 ⟨rfl, hb3⟩; rw [HCB.out])
        refine hK.out _ _ ?_ (fun hHeld => ?_)
        · (try dsimp only)
          (((try go_split_ands); (try dsimp only); (repeat' apply And.intro)) <;> (repeat (first | with_reducible assumption | ((with_reducible refine cnew0 ?_); simp; done) | ((with_reducible refine cnew1 ?_); simp; done) | (with_reducible refine akeep ?_) | (with_reducible refine dkeep ?_) | ((with_reducible refine skeep ?_ ?_); rotate_left; (first | ((try dsimp only); omega) | (simp; done) | (simp; omega))) | (with_reducible refine bkeep hb3 ?_))))
        clear hK K
        (try simp only [Act.put, List.setIfInBounds_toArray, List.set_cons_zero, List.set_cons_succ])
        refine wpAnyH_take (i := 14) (oi := ⟨_, _, _, _, _, _⟩) (v := ?_) rfl (by kernel_rfl) (by kernel_rfl) (by kernel_rfl) (fun _ _ _ h => h) (Or.inl ⟨by rfl, ?_⟩) (by assumption) ?_
        rotate_left
        · (intro w hSw; (try dsimp only at hSw); go_simp; (try with_reducible rfl))
        (try simp only [Act.put, List.setIfInBounds_toArray, List.set_cons_zero, List.set_cons_succ])
        refine wpAnyH_done (by kernel_rfl) ?_ _
        have B4 : Below wr.heap.size wr w4 := by (repeat (first | exact Below.refl _ _ | refine Below.setCell ?_ (by first | (simp; done) | (simp; omega) | omega) _ | refine belowN ?_ _ | refine Below.drew ?_ | refine Below.alloc ?_ (by first | (simp; done) | (simp; omega) | omega) _ | refine Below.trans ?_ (Below.mono (by assumption) (by first | (simp; done) | (simp; omega) | omega))))
        go_wp2_with fail
        go_roundw
        case rel => exact ⟨k + 1, by omega, by go_num, ⟨m, by rw [HS2.out, hy]; omega, rfl⟩, hbw.trans (B4.mono sw)⟩
        case measure => simp [intOf]; omega
      · have hy : y = x.s := by rw [hcx, if_neg hd]
        obtain ⟨rfl, rfl⟩ | ⟨rfl, rfl⟩ : (ca = true ∧ cb = false) ∨ (ca = false ∧ cb = true) := by cases ca <;> cases cb <;> simp_all
        all_goals
          clear hcx hd
          rw [hy] at hin2
          go_wp2_with fail
          refine wp_region_held_drew (S := (fun w' => w'.cell? ⟨b, off + k * 3, none⟩ = some (.int .i64 (x.a : Int)) ∧ w'.cell? ⟨b, off + k * 3 + 1, none⟩ = some (.int .i64 (x.b : Int)))) (by kernel_rfl) ?_ (fun hHeld => ?_)
          · (try dsimp only)
            (((try go_split_ands); (try dsimp only); (repeat' apply And.intro)) <;> (repeat (first | with_reducible assumption | ((with_reducible refine cnew0 ?_); simp; done) | ((with_reducible refine cnew1 ?_); simp; done) | (with_reducible refine akeep ?_) | (with_reducible refine dkeep ?_) | ((with_reducible refine skeep ?_ ?_); rotate_left; (first | ((try dsimp only); omega) | (simp; done) | (simp; omega))) | (with_reducible refine bkeep hb3 ?_))))
          refine wpAnyH_take (i := 0) (oi := ⟨_, _, _, _, _, _⟩) (v := ?_) rfl (by kernel_rfl) (by kernel_rfl) (by kernel_rfl) (fun _ _ _ h => h) (Or.inl ⟨by rfl, ?_⟩) (by assumption) ?_
          rotate_left
          · (intro w hSw; (try dsimp only at hSw); go_simp; (try with_reducible rfl))
          (try simp only [Act.put, List.setIfInBounds_toArray, List.set_cons_zero, List.set_cons_succ])
          refine wpAnyH_take (i := 1) (oi := ⟨_, _, _, _, _, _⟩) (v := ?_) rfl (by kernel_rfl) (by kernel_rfl) (by kernel_rfl) (fun _ _ _ h => h) (Or.inl ⟨by rfl, ?_⟩) (by assumption) ?_
          rotate_left
          · (intro w hSw; (try dsimp only at hSw); go_simp; (try with_reducible rfl))
          (try simp only [Act.put, List.setIfInBounds_toArray, List.set_cons_zero, List.set_cons_succ])
          refine wpAnyH_take (i := 2) (oi := ⟨_, _, _, _, _, _⟩) (v := ?_) rfl (by kernel_rfl) (by kernel_rfl) (by kernel_rfl) (fun _ _ _ h => h) (Or.inl ⟨by rfl, ?_⟩) (by assumption) ?_
          rotate_left
          · (intro w hSw; (try dsimp only at hSw); go_simp; (try with_reducible rfl))
          (try simp only [Act.put, List.setIfInBounds_toArray, List.set_cons_zero, List.set_cons_succ])
          refine wpAnyH_take (i := 3) (oi := ⟨_, _, _, _, _, _⟩) (v := ?_) rfl (by kernel_rfl) (by kernel_rfl) (by kernel_rfl) (fun _ _ _ h => h) (Or.inl ⟨by rfl, ?_⟩) (by assumption) ?_
          rotate_left
          · (intro w hSw; (try dsimp only at hSw); go_simp; (try with_reducible rfl))
          (try simp only [Act.put, List.setIfInBounds_toArray, List.set_cons_zero, List.set_cons_succ])
          refine wpAnyH_take (i := 4) (oi := ⟨_, _, _, _, _, _⟩) (v := ?_) rfl (by kernel_rfl) (by kernel_rfl) (by kernel_rfl) (fun _ _ _ h => h) (Or.inl ⟨by rfl, ?_⟩) (by assumption) ?_
          rotate_left
          · (intro w hSw; (try dsimp only at hSw); go_simp; (try with_reducible rfl))
          (try simp only [Act.put, List.setIfInBounds_toArray, List.set_cons_zero, List.set_cons_succ])
          refine wpAnyH_take (i := 5) (oi := ⟨_, _, _, _, _, _⟩) (v := ?_) rfl (by kernel_rfl) (by kernel_rfl) (by kernel_rfl) (fun _ _ _ h => h) (Or.inl ⟨by rfl, ?_⟩) (by assumption) ?_
          rotate_left
          · (intro w hSw; (try dsimp only at hSw); go_simp; (try with_reducible rfl))
          (try simp only [Act.put, List.setIfInBounds_toArray, List.set_cons_zero, List.set_cons_succ])
          refine wpAnyH_take (i := 7) (oi := ⟨_, _, _, _, _, _⟩) (v := ?_) rfl (by kernel_rfl) (by kernel_rfl) (by kernel_rfl) (fun _ _ _ h => h) (Or.inl ⟨by rfl, ?_⟩) (by assumption) ?_
          rotate_left
          · (intro w hSw; (try dsimp only at hSw); go_simp; (try with_reducible rfl))
          (try simp only [Act.put, List.setIfInBounds_toArray, List.set_cons_zero, List.set_cons_succ])
          refine wpAnyH_take (i := 8) (oi := ⟨_, _, _, _, _, _⟩) (v := ?_) rfl (by kernel_rfl) (by kernel_rfl) (by kernel_rfl) (fun _ _ _ h => h) (Or.inl ⟨by rfl, ?_⟩) (by assumption) ?_
          rotate_left
          · (intro w hSw; (try dsimp only at hSw); go_simp; (try with_reducible rfl))
          (try simp only [Act.put, List.setIfInBounds_toArray, List.set_cons_zero, List.set_cons_succ])
          refine wpAnyH_take (i := 9) (oi := ⟨_, _, _, _, _, _⟩) (v := ?_) rfl (by kernel_rfl) (by kernel_rfl) (by kernel_rfl) (fun _ _ _ h => h) (Or.inl ⟨by rfl, ?_⟩) (by assumption) ?_
          rotate_left
          · (intro w hSw; (try dsimp only at hSw); go_simp; (try with_reducible rfl))
          (try simp only [Act.put, List.setIfInBounds_toArray, List.set_cons_zero, List.set_cons_succ])
          refine wpAnyH_take (i := 10) (oi := ⟨_, _, _, _, _, _⟩) (v := ?_) rfl (by kernel_rfl) (by kernel_rfl) (by kernel_rfl) (fun _ _ _ h => h) (Or.inl ⟨by rfl, ?_⟩) (by assumption) ?_
          rotate_left
          · (intro w hSw; (try dsimp only at hSw); go_simp; (try with_reducible rfl))
          (try simp only [Act.put, List.setIfInBounds_toArray, List.set_cons_zero, List.set_cons_succ])
          refine wpAnyH_take (i := 11) (oi := ⟨_, _, _, _, _, _⟩) (v := ?_) rfl (by kernel_rfl) (by kernel_rfl) (by kernel_rfl) (fun _ _ _ h => h) (Or.inl ⟨by rfl, ?_⟩) (by assumption) ?_
          rotate_left
          · (intro w hSw; (try dsimp only at hSw); go_simp; (try with_reducible rfl))
          (try simp only [Act.put, List.setIfInBounds_toArray, List.set_cons_zero, List.set_cons_succ])
          refine wpAnyH_take (i := 12) (oi := ⟨_, _, _, _, _, _⟩) (v := ?_) rfl (by kernel_rfl) (by kernel_rfl) (by kernel_rfl) (fun _ _ _ h => h) (Or.inl ⟨by rfl, ?_⟩) (by assumption) ?_
          rotate_left
          · (intro w hSw; (try dsimp only at hSw); go_simp; (try with_reducible rfl))
          (try simp only [Act.put, List.setIfInBounds_toArray, List.set_cons_zero, List.set_cons_succ])
          refine wpAnyH_ready (rs := [6]) (by kernel_rfl) (by simp) ?_
          refine AllReadyH.cons (o := ⟨_, _, _, _, _, _⟩) rfl (fun K hK => ?_) AllReadyH.nil
          go_simp
          (go_at_call 96; refine (l00Has_any _ zs x.a _ (HU.out.below (show Below w.heap.size w _ by (repeat (first | exact Below.refl _ _ | refine Below.setCell ?_ (by first | (simp; done) | (simp; omega) | omega) _ | refine belowN ?_ _ | refine Below.drew ?_ | refine Below.alloc ?_ (by first | (simp; done) | (simp; omega) | omega) _ | refine Below.trans ?_ (Below.mono (by assumption) (by first | (simp; done) | (simp; omega) | omega)))))) hz).mono ?_; rintro e w3 ⟨rfl, hb3⟩; rw [HCA.out]; have s3 : wr.heap.size ≤ w3.heap.size := hb3.size)
          refine hK.out _ _ ?_ (fun hHeld => ?_)
          · (try dsimp only)
            (((try go_split_ands); (try dsimp only); (repeat' apply And.intro)) <;> (repeat (first | with_reducible assumption | ((with_reducible refine cnew0 ?_); simp; done) | ((with_reducible refine cnew1 ?_); simp; done) | (with_reducible refine akeep ?_) | (with_reducible refine dkeep ?_) | ((with_reducible refine skeep ?_ ?_); rotate_left; (first | ((try dsimp only); omega) | (simp; done) | (simp; omega))) | (with_reducible refine bkeep hb3 ?_))))
          clear hK K
          (try simp only [Act.put, List.setIfInBounds_toArray, List.set_cons_zero, List.set_cons_succ])
          refine wpAnyH_ready (rs := [13]) (by kernel_rfl) (by simp) ?_
          refine AllReadyH.cons (o := ⟨_, _, _, _, _, _⟩) rfl (fun K hK => ?_) AllReadyH.nil
          go_simp
          (go_at_call 96; refine (l00Has_any _ zs x.b _ (HU.out.below (show Below w.heap.size w _ by (repeat (first | exact Below.refl _ _ | refine Below.setCell ?_ (by first | (simp; done) | (simp; omega) | omega) _ | refine belowN ?_ _ | refine Below.drew ?_ | refine Below.alloc ?_ (by first | (simp; done) | (simp; omega) | omega) _ | refine Below.trans ?_ (Below.mono (by assumption) (by first | (simp; done) | (simp; omega) | omega)))))) hz).mono ?_; rintro e w4 ⟨rfl, hb3⟩; rw [HCB.out])
          refine hK.out _ _ ?_ (fun hHeld => ?_)
          · (try dsimp only)
            (((try go_split_ands); (try dsimp only); (repeat' apply And.intro)) <;> (repeat (first | with_reducible assumption | ((with_reducible refine cnew0 ?_); simp; done) | ((with_reducible refine cnew1 ?_); simp; done) | (with_reducible refine akeep ?_) | (with_reducible refine dkeep ?_) | ((with_reducible refine skeep ?_ ?_); rotate_left; (first | ((try dsimp only); omega) | (simp; done) | (simp; omega))) | (with_reducible refine bkeep hb3 ?_))))
          clear hK K
          (try simp only [Act.put, List.setIfInBounds_toArray, List.set_cons_zero, List.set_cons_succ])
          refine wpAnyH_take (i := 14) (oi := ⟨_, _, _, _, _, _⟩) (v := ?_) rfl (by kernel_rfl) (by kernel_rfl) (by kernel_rfl) (fun _ _ _ h => h) (Or.inl ⟨by rfl, ?_⟩) (by assumption) ?_
          rotate_left
          · (intro w hSw; (try dsimp only at hSw); go_simp; (try with_reducible rfl))
          (try simp only [Act.put, List.setIfInBounds_toArray, List.set_cons_zero, List.set_cons_succ])
          refine wpAnyH_done (by kernel_rfl) ?_ _
          have B4 : Below wr.heap.size wr w4 := by (repeat (first | exact Below.refl _ _ | refine Below.setCell ?_ (by first | (simp; done) | (simp; omega) | omega) _ | refine belowN ?_ _ | refine Below.drew ?_ | refine Below.alloc ?_ (by first | (simp; done) | (simp; omega) | omega) _ | refine Below.trans ?_ (Below.mono (by assumption) (by first | (simp; done) | (simp; omega) | omega))))
          have c24 := cell_below B4 c2
          go_wp2_with fail
          go_roundw
          case rel => exact ⟨k + 1, by omega, by go_num, ⟨m + x.s, by rw [HS2.out, hy], by first | rfl | exact congrArg (Value.int .i64) (IntWalk.i64_in _ (by omega))⟩, hbw.trans (B4.mono sw)⟩
          case measure => simp [intOf]; omega
    · obtain rfl : k = L.length := by omega
      go_wp2_with fail
      go_ret
      exact ⟨ret_i64 (by rw [HM.out, List.take_length]), hbw⟩

set_option maxRecDepth 100000 in
set_option maxHeartbeats 4000000 in
set_option linter.unusedSimpArgs false in
theorem specCutStrength_law (vg1 vt1 : Value) (S1 : Set_) (v2 : Value) (P2 : List Pl) (v3 : Value) (Z3 : List Int) (w : World) (h1 : SetIn w vg1 vt1 S1) (_s1 : ∃ a k q, vg1 = .slice (some a) k q) (ok1 : S1.ok) (m1 : S1.small) (h2 : Plcs w v2 P2) (_s2 : ∃ a k q, v2 = .slice (some a) k q) (_o2 : ∀ p ∈ P2, p.ok) (m2 : P2.length ≤ 1048576) (h3 : Ints w v3 Z3) (_s3 : ∃ a k q, v3 = .slice (some a) k q) (_o3 : ∀ z ∈ Z3, (Lit.int .i64 z).wf = true) (m3 : Z3.length ≤ 1048576) :
    Calls Tryd.prog 29 #[.agg #[vg1, vt1], .agg #[v2], v3] w fun e w' => e = .returned (.tuple #[.int .i64 (cuR S1 P2 Z3), .int .i64 (cuC S1 P2 Z3)]) ∧ Below w.heap.size w w' := by
  have HS := Lib.hid h1
  have HV := Lib.hid h2
  have HZ := Lib.hid h3
  have HB := Lib.hid (boxes_sa w vg1 vt1 v2 38 42)
  clear h1 h2 h3
  go_enter Tryd.func29, Tryd.ntmps29
  go_wp2_with fail
  refine (l06Asked_any _ _ vg1 vt1 v2 S1 P2 _ HB.out.1 HB.out.2 (HS.out.below (by (repeat (first | exact Below.refl _ _ | refine Below.setCell ?_ (by first | (simp; done) | (simp; omega) | omega) _ | refine belowN ?_ _ | refine Below.drew ?_ | refine Below.alloc ?_ (by first | (simp; done) | (simp; omega) | omega) _ | refine Below.trans ?_ (Below.mono (by assumption) (by first | (simp; done) | (simp; omega) | omega)))))) ok1 m1 (HV.out.below (by (repeat (first | exact Below.refl _ _ | refine Below.setCell ?_ (by first | (simp; done) | (simp; omega) | omega) _ | refine belowN ?_ _ | refine Below.drew ?_ | refine Below.alloc ?_ (by first | (simp; done) | (simp; omega) | omega) _ | refine Below.trans ?_ (Below.mono (by assumption) (by first | (simp; done) | (simp; omega) | omega))))))).mono ?_
  rintro e w1 ⟨rfl, hb1⟩
  have B1 : Below w.heap.size w w1 := by (repeat (first | exact Below.refl _ _ | refine Below.setCell ?_ (by first | (simp; done) | (simp; omega) | omega) _ | refine belowN ?_ _ | refine Below.drew ?_ | refine Below.alloc ?_ (by first | (simp; done) | (simp; omega) | omega) _ | refine Below.trans ?_ (Below.mono (by assumption) (by first | (simp; done) | (simp; omega) | omega))))
  have z1 := B1.size
  have G1 := Lib.hid (HB.out.1.below hb1)
  have A1 := Lib.hid (HB.out.2.below hb1)
  clear hb1 HB
  cases hv : vaB S1 P2
  · have K := Lib.hid (cu_1 (zs := Z3) hv)
    rw [askC_no hv]
    go_wp2_with fail
    go_ret2
    exact ⟨ret_ii K.out.2.symm K.out.1.symm, B1⟩
  have HVa := Lib.hid (vaB_va hv)
  have HV1 := Lib.hid hv
  rw [askC_yes hv]
  clear hv
  go_wp2_with fail
  refine (l06Part_any _ v2 v3 P2 Z3 _ A1.out (HV.out.below B1) m2 (HZ.out.below B1) m3).mono ?_
  rintro e w2 ⟨rfl, hb2⟩
  have B2 : Below w.heap.size w w2 := B1.trans (hb2.mono z1)
  have z2 := B2.size
  have G2 := Lib.hid (G1.out.below hb2)
  have A2 := Lib.hid (A1.out.below hb2)
  clear hb2
  cases hr : riseB Z3 0 ((P2.length : Int) - 1)
  · have K := Lib.hid (cu_2 HV1.out hr)
    go_wp2_with fail
    go_ret2
    exact ⟨ret_ii K.out.2.symm K.out.1.symm, B2⟩
  have K := Lib.hid (cu_0 HV1.out hr)
  clear hr
  go_wp2_with fail
  refine (l06Bonds_any _ _ vg1 vt1 v2 S1 P2 _ G2.out A2.out (HS.out.below B2) m1 (HV.out.below B2) HVa.out).mono ?_
  rintro e w3 ⟨⟨v', rfl, ho⟩, hb3⟩
  have B3 : Below w.heap.size w w3 := B2.trans (hb3.mono z2)
  have HO := Lib.hid ho
  clear ho
  go_wp2_with fail
  refine (l06Cut_any _ _ _ Z3 _ (OwnC.cl HO.out) (HZ.out.below B3) m3 (bdsT_small (List.prefix_refl _) HVa.out.F.len) (fun M hM => cutS_pre Z3 HVa.out hM)).mono ?_
  rintro e w4 ⟨rfl, hb4⟩
  go_wp2_with fail
  go_ret2
  exact ⟨ret_ii K.out.2.symm K.out.1.symm, B3.trans (hb4.mono B3.size)⟩
/-- Is j among the first k numbers? -/
noncomputable def insK (zs : List Int) (k j : Nat) : Bool := hasI (zs.take k) (j : Int)
theorem insK_zero (zs : List Int) (j : Nat) : insK zs 0 j = false := hasI_no fun i hi => by simp at hi
theorem insK_all (zs : List Int) (j : Nat) : insK zs zs.length j = hasI zs (j : Int) := by unfold insK; rw [List.take_length]
theorem iAt_take {zs : List Int} {k i : Nat} (h : i < k) : iAt (zs.take k) i = iAt zs i := by simp [iAt, List.getD_eq_getElem?_getD, h]
theorem insK_succ {zs : List Int} {k m j : Nat} (hk : k < zs.length) (h : iAt zs k = (m : Int)) : insK zs (k + 1) j = if j = m then true else insK zs k j := by
  by_cases hj : j = m
  · rw [if_pos hj]
    exact hasI_yes (i := k) (by simp; omega) (by rw [iAt_take (by omega), h, hj])
  · rw [if_neg hj]
    cases hb : insK zs k j
    · refine hasI_no fun i hi => ?_
      rw [iAt_take (by simp at hi; omega)]
      by_cases hik : i = k
      · subst hik; rw [h]; omega
      · intro he
        have : insK zs k j = true := hasI_yes (i := i) (by simp at hi ⊢; omega) (by rw [iAt_take (by simp at hi; omega)]; exact he)
        rw [hb] at this; exact absurd this (by simp)
    · obtain ⟨i, hi, he⟩ := of_decide_eq_true hb
      have hik : i < k := by simp at hi; omega
      exact hasI_yes (i := i) (by simp; omega) (by rw [iAt_take (by omega)]; rw [iAt_take hik] at he; exact he)
theorem info_bool : (Tryd.prog.info? 4).map (fun i => (i.zero, i.size, i.bytes)) = some (some (.bool false), 1, 1) := by kernel_rfl
def zeroB (n : Nat) : Array Value := madeCells #[.bool false] n
theorem mk_bool (n : Nat) (hn : n ≤ 1048576) (w : World) : (Instr.makeSlice 98 (.int .i64 (n : Int)) (.int .i64 (n : Int))).run Tryd.prog w = .ok (.slice (some ⟨w.heap.size, 0, none⟩) n n) (w.alloc (.cells (zeroB n) 4)) :=
  run_make_row' 98 4 (.bool false) 1 Tryd.underlying98 info_bool rfl .i64 .i64 n (by omega) (by omega) w

set_option maxRecDepth 100000 in
set_option maxHeartbeats 8000000 in
set_option linter.unusedSimpArgs false in
theorem implCutStrength_law (vg1 vt1 : Value) (S1 : Set_) (v2 : Value) (P2 : List Pl) (v3 : Value) (Z3 : List Int) (w : World) (h1 : SetIn w vg1 vt1 S1) (s1 : ∃ a k q, vg1 = .slice (some a) k q) (ok1 : S1.ok) (m1 : S1.small) (h2 : Plcs w v2 P2) (s2 : ∃ a k q, v2 = .slice (some a) k q) (o2 : ∀ p ∈ P2, p.ok) (m2 : P2.length ≤ 1048576) (h3 : Ints w v3 Z3) (_s3 : ∃ a k q, v3 = .slice (some a) k q) (_o3 : ∀ z ∈ Z3, (Lit.int .i64 z).wf = true) (m3 : Z3.length ≤ 1048576) (hT : Steps w) :
    Calls Tryd.prog 31 #[.agg #[vg1, vt1], .agg #[v2], v3] w fun e w' => e = .returned (.tuple #[.int .i64 (cuR S1 P2 Z3), .int .i64 (cuC S1 P2 Z3)]) ∧ Below w.heap.size w w' := by
  have HS := Lib.hid h1
  have HV := Lib.hid h2
  have HZ := Lib.hid h3
  have HT := Lib.hid hT
  have HB := Lib.hid (boxes_sa w vg1 vt1 v2 38 42)
  obtain ⟨po, pcap, rfl, hpl, hpm, -⟩ := h2.open_
  obtain ⟨zo, zcap, rfl, hzl, hzm, hzc⟩ := h3.open_
  unfold maxLen at hpm hzm
  have HZC := Lib.hid hzc
  clear h1 h2 h3 hT hzc
  have hV := implValidAssembly_law vg1 vt1 S1 _ P2 ((w.alloc (.cells #[vg1, vt1] 38)).alloc (.cells #[.slice po P2.length pcap] 42)) (HS.out.below (by (repeat (first | exact Below.refl _ _ | refine Below.setCell ?_ (by first | (simp; done) | (simp; omega) | omega) _ | refine belowN ?_ _ | refine Below.drew ?_ | refine Below.alloc ?_ (by first | (simp; done) | (simp; omega) | omega) _ | refine Below.trans ?_ (Below.mono (by assumption) (by first | (simp; done) | (simp; omega) | omega)))))) s1 ok1 m1 (HV.out.below (by (repeat (first | exact Below.refl _ _ | refine Below.setCell ?_ (by first | (simp; done) | (simp; omega) | omega) _ | refine belowN ?_ _ | refine Below.drew ?_ | refine Below.alloc ?_ (by first | (simp; done) | (simp; omega) | omega) _ | refine Below.trans ?_ (Below.mono (by assumption) (by first | (simp; done) | (simp; omega) | omega)))))) s2 o2 m2
  obtain ⟨b0, b1⟩ := HB.out.1
  obtain ⟨b2⟩ := HB.out.2
  rw [← callsIn_wide (n := 9)]
  refine callsIn_of_wp_marks Tryd.func31 rfl trivial ?_ rfl
  simp only [Tryd.ntmps31, List.size_toArray, List.length_cons, List.length_nil, Nat.reduceAdd, Nat.reduceSub, Array.replicate_succ, Array.replicate_zero, List.push_toArray, List.append_toArray, List.nil_append, List.cons_append]
  gi_wp2_with fail
  refine ⟨trivial, (callsIn_wide.2 hV).mono ?_⟩
  rintro e w1 ⟨rfl, hb1⟩
  have B1 : Below w.heap.size w w1 := by (repeat (first | exact Below.refl _ _ | refine Below.setCell ?_ (by first | (simp; done) | (simp; omega) | omega) _ | refine belowN ?_ _ | refine Below.drew ?_ | refine Below.alloc ?_ (by first | (simp; done) | (simp; omega) | omega) _ | refine Below.trans ?_ (Below.mono (by assumption) (by first | (simp; done) | (simp; omega) | omega))))
  have z1 := B1.size
  have G1 := Lib.hid (HB.out.1.below hb1)
  have A1 := Lib.hid (HB.out.2.below hb1)
  have l1 := A1.out.lt
  clear hb1 HB b0 b1 b2 hV
  cases hv : vaB S1 P2
  · have K := Lib.hid (cu_1 (zs := Z3) hv)
    gi_wp2
    refine ⟨_, results_tmp2 rfl _ _ _, ?_, B1⟩
    rw [K.out.1, K.out.2]; rfl
  have HVa := Lib.hid (vaB_va hv)
  have HV1 := Lib.hid hv
  have h500 := (vaB_va hv).F.len
  clear hv
  obtain ⟨a0⟩ := A1.out
  gi_wp2_with fail
  refine ⟨trivial, (callsIn_wide.2 (hasPart_any _ _ P2 Z3 _ (HV.out.below B1) m2 (HZ.out.below B1) m3)).mono ?_⟩
  rintro e w2 ⟨rfl, hb2⟩
  have B2 : Below w.heap.size w w2 := B1.trans (hb2.mono z1)
  have z2 := B2.size
  have G2 := Lib.hid (G1.out.below hb2)
  have A2 := Lib.hid (A1.out.below hb2)
  have l2 := A2.out.lt
  clear hb2 a0 l1 z1
  cases hr : riseB Z3 0 ((P2.length : Int) - 1)
  · have K := Lib.hid (cu_2 HV1.out hr)
    gi_wp2
    refine ⟨_, results_tmp2 rfl _ _ _, ?_, B2⟩
    rw [K.out.1, K.out.2]; rfl
  have K := Lib.hid (cu_0 HV1.out hr)
  have HRise := Lib.hid (riseB_iff.1 hr)
  have HPre := Lib.hid (fun (L : List Bd) (h : L <+: bdsT S1 P2 (tcs P2 P2.length)) => cutS_pre Z3 HVa.out h)
  have HMem := Lib.hid (fun (x : Bd) (h : x ∈ bdsT S1 P2 (tcs P2 P2.length)) => bdsT_mem HVa.out h)
  clear hr
  obtain ⟨a0⟩ := A2.out
  have hmk := mk_bool P2.length (by omega)
  have RW0 := Lib.hid (show ((w2.alloc (.cells (zeroB P2.length) 4)).alloc (.cells #[.slice (some ⟨w2.heap.size, 0, none⟩) P2.length P2.length] 98)).rowIs w2.heap.size 4 P2.length (fun j => .bool (insK Z3 0 j)) from
    ((World.rowIs_made w2 (.bool false) P2.length 4).of_block (Below.heap_alloc _ _ _ (by simp))).congr fun i _ => by rw [insK_zero])
  have SL0 := Lib.hid (show At1 ((w2.alloc (.cells (zeroB P2.length) 4)).alloc (.cells #[.slice (some ⟨w2.heap.size, 0, none⟩) P2.length P2.length] 98)) (w2.heap.size + 1) (.slice (some ⟨w2.heap.size, 0, none⟩) P2.length P2.length) from ⟨by simp [go_sem]⟩)
  have b22 : Below w2.heap.size w2 ((w2.alloc (.cells (zeroB P2.length) 4)).alloc (.cells #[.slice (some ⟨w2.heap.size, 0, none⟩) P2.length P2.length] 98)) := ((Below.refl _ w2).alloc (Nat.le_refl _) _).alloc (by simp) _
  have zz : w2.heap.size + 2 ≤ ((w2.alloc (.cells (zeroB P2.length) 4)).alloc (.cells #[.slice (some ⟨w2.heap.size, 0, none⟩) P2.length P2.length] 98)).heap.size := by simp
  have G3 := Lib.hid (G2.out.below b22)
  have A3 := Lib.hid (A2.out.below b22)
  gi_wp2
  gi_loopw [27] (fun i wr => ∃ k : Nat, k ≤ Z3.length ∧ i = .int .i64 k ∧ Hid (wr.rowIs w2.heap.size 4 P2.length (fun j => .bool (insK Z3 k j)) ∧ At1 wr (w2.heap.size + 1) (.slice (some ⟨w2.heap.size, 0, none⟩) P2.length P2.length) ∧ Below w2.heap.size w2 wr ∧ w2.heap.size + 2 ≤ wr.heap.size) ∧ Below w.heap.size w wr) (fun i _ => Z3.length - (intOf i).toNat)
  case atStart => exact ⟨0, by omega, rfl, Lib.hid ⟨RW0.out, SL0.out, b22, zz⟩, B2.trans (b22.mono z2)⟩
  case round =>
    clear RW0 SL0 b22 zz a0 G3 A3 B2
    obtain ⟨k, hk, rfl, hin, hbw⟩ := hrel
    have sw := hbw.size
    have sl := hin.out.2.1.c0
    have lsl := hin.out.2.1.lt
    by_cases hlt : k < Z3.length
    · have hat := inB_iff.1 (HRise.out k hlt).in_
      obtain ⟨m, hme⟩ : ∃ m : Nat, iAt Z3 k = (m : Int) := ⟨(iAt Z3 k).toNat, by omega⟩
      have hmP : m < P2.length := by omega
      have hmP2 : (m : Int) < P2.length := by omega
      obtain ⟨bz, oz, rfl, H2⟩ := HZC.out (by omega)
      have e0 := cell_below hbw (H2 k hlt)
      rw [hme] at e0
      have d0 := hin.out.1.cell hmP
      have d1 := hin.out.1.frozen m
      have HIS := Lib.hid (fun j => insK_succ (j := j) hlt hme)
      clear hat hme H2
      gi_wp2
      go_roundw
      case rel =>
        refine ⟨k + 1, by omega, by go_num, Lib.hid ⟨(hin.out.1.set m _).congr fun i _ => ?_, ⟨skeep hin.out.2.1.c0 (by dsimp only; omega)⟩, hin.out.2.2.1.setCell (p := ⟨w2.heap.size, m, none⟩) (by dsimp only; omega) _, by simpa [World.setCell] using hin.out.2.2.2⟩, hbw.setCell (p := ⟨w2.heap.size, m, none⟩) (by dsimp only; omega) _⟩
        rw [HIS.out]
        by_cases hij : i = m
        · rw [if_pos hij, if_pos hij]
        · rw [if_neg hij, if_neg hij]
      case measure => simp [intOf]; omega
    · obtain rfl : k = Z3.length := by omega
      have G4 := Lib.hid ((G2.out.below hin.out.2.2.1))
      have A4 := Lib.hid ((A2.out.below hin.out.2.2.1))
      have ROW := Lib.hid (hin.out.1.congr (fun i _ => by rw [insK_all]) : wr.rowIs w2.heap.size 4 P2.length (fun j => .bool (hasI Z3 (j : Int))))
      have SLI := Lib.hid hin.out.2.1
      have zr := hin.out.2.2.2
      have lA4 := A4.out.lt
      clear hin sl lsl
      obtain ⟨g0, g1⟩ := G4.out.below (w1 := wr.alloc (.cells #[.int .i64 0] 2)) (by (repeat (first | exact Below.refl _ _ | refine Below.setCell ?_ (by first | (simp; done) | (simp; omega) | omega) _ | refine belowN ?_ _ | refine Below.drew ?_ | refine Below.alloc ?_ (by first | (simp; done) | (simp; omega) | omega) _ | refine Below.trans ?_ (Below.mono (by assumption) (by first | (simp; done) | (simp; omega) | omega)))))
      obtain ⟨a0⟩ := A4.out.below (w1 := wr.alloc (.cells #[.int .i64 0] 2)) (by (repeat (first | exact Below.refl _ _ | refine Below.setCell ?_ (by first | (simp; done) | (simp; omega) | omega) _ | refine belowN ?_ _ | refine Below.drew ?_ | refine Below.alloc ?_ (by first | (simp; done) | (simp; omega) | omega) _ | refine Below.trans ?_ (Below.mono (by assumption) (by first | (simp; done) | (simp; omega) | omega)))))
      gi_wp2_with fail
      refine ⟨trivial, (callsIn_wide.2 (bonds_any _ _ _ _)).mono ?_⟩
      rintro e w5 ⟨rfl, rfl⟩
      obtain ⟨W, hW⟩ : ∃ W, W = ((wr.alloc (.cells #[.int .i64 0] 2)).alloc (.cells #[vg1, vt1] 38)).alloc (.cells #[.slice po P2.length pcap] 42) := ⟨_, rfl⟩
      have zW : W.heap.size = wr.heap.size + 3 := by rw [hW]; simp
      have bW : Below wr.heap.size wr W := by rw [hW]; exact (((Below.refl _ wr).alloc (Nat.le_refl _) _).alloc (by simp) _).alloc (by simp; omega) _
      have BW : Below w.heap.size w W := hbw.trans (bW.mono sw)
      have SB : One W wr.heap.size (.int .i64 0) := by rw [hW]; exact ⟨by simp [go_sem], by simp [go_sem]⟩
      have GB : At W (wr.heap.size + 1) vg1 vt1 := by rw [hW]; exact ⟨by simp [go_sem], by simp [go_sem]⟩
      have AB : At1 W (wr.heap.size + 1 + 1) (.slice po P2.length pcap) := by rw [hW]; exact ⟨by simp [go_sem]⟩
      have RW := ROW.out.of_block (bW.block _ (by omega))
      have SW := SLI.out.below bW
      clear g0 g1 a0
      gi_wp2
      rw [← hW]
      clear hW ROW SLI bW hbw G4 A4
      generalize hsb : wr.heap.size = sb at *
      generalize hrb : w2.heap.size = rb at *
      refine wpIn_give_box (xs := bdsT S1 P2 (tcs P2 P2.length)) (N := fun k => k < W.heap.size ∧ k ≠ sb) (encs := encB) rfl (enters_of Tryd.func87 (by kernel_rfl) rfl)
        (bonds_gives w (sb + 1) (sb + 1 + 1) vg1 vt1 (.slice po P2.length pcap) S1 P2 _ W BW (fun k h => ⟨by omega, by omega⟩) ⟨by omega, by omega⟩ ⟨by omega, by omega⟩ (fun k h => h.1) GB AB HS.out m1 HV.out HVa.out HT.out) (Below.refl _ _) (fun k h => h.1) (fun _ => rfl)
        (fun pre C W' => (∃ m : Int, m = cutS Z3 pre ∧ One W' sb (.int .i64 m)) ∧ W'.rowIs rb 4 P2.length (fun j => .bool (hasI Z3 (j : Int))) ∧ At1 W' (rb + 1) (.slice (some ⟨rb, 0, none⟩) P2.length P2.length) ∧ Below w.heap.size w W') ?abide (fun _ => False) (fun k h => h.elim) ⟨⟨0, rfl, SB⟩, RW, SW, BW⟩
        (fun x Bx W' => Thr W' Bx (.int .i64 (x.a : Int)) (.int .i64 (x.b : Int)) (.int .i64 x.s) ∧ sb ≠ Bx) (fun x Bx s X Y row h hg hr => ⟨thr_own Bx _ _ _ () X Y row h.1 hg hr, h.2⟩) ?actF ?assign ?body ?done
      case abide =>
        rintro pre C A B ⟨⟨m, h1, h2⟩, h4, h5, h3⟩ hs
        exact ⟨⟨m, h1, h2.of_block (hs.block _ h2.lt (.inl (by omega)))⟩, h4.of_block (hs.block _ h4.lt (.inl (by omega))), h5.of_block (hs.block _ h5.lt (.inl (by omega))), h3.trans (hs.below (by omega) h3.size)⟩
      case assign =>
        rintro l2 pre C x W' K hi hK
        dsimp only [encB]
        gi_wp2
        have hsb := hi.1
        have hT3 : Thr (W'.alloc (.cells #[.int .i64 (x.a : Int), .int .i64 (x.b : Int), .int .i64 x.s] 86)) W'.heap.size (.int .i64 (x.a : Int)) (.int .i64 (x.b : Int)) (.int .i64 x.s) := ⟨by simp [go_sem], by simp [go_sem], by simp [go_sem]⟩
        have hb3 : Below W'.heap.size W' (W'.alloc (.cells #[.int .i64 (x.a : Int), .int .i64 (x.b : Int), .int .i64 x.s] 86)) := (Below.refl _ W').alloc (Nat.le_refl _) _
        generalize W'.alloc (.cells #[.int .i64 (x.a : Int), .int .i64 (x.b : Int), .int .i64 x.s] 86) = W3 at *
        revert hT3 hb3
        obtain ⟨m, -, hone⟩ := hsb
        have hlt := hone.lt
        generalize hz : W'.heap.size = Bx
        intro hT3 hb3
        exact hK Bx _ (by rw [hz]; exact hb3) ⟨hT3, by omega⟩
      case body =>
        rintro l2 pre C x Bx W' hzW hC ⟨⟨m, hm, hone⟩, hrow, hsl, hb⟩ ⟨hX, hne⟩ hpre
        have hin := HPre.out _ ((List.prefix_append _ _).trans hpre)
        have hin2 := HPre.out _ hpre
        obtain ⟨hxa, hxb, hxs⟩ := HMem.out x (hpre.subset (by simp))
        have hxa2 : (x.a : Int) < P2.length := by omega
        have hxb2 : (x.b : Int) < P2.length := by omega
        rw [cutS_snoc, ← hm] at hin2
        rw [← hm] at hin
        have HY := Lib.hid (show cutS Z3 (pre ++ [x]) = m + cutX Z3 x by rw [cutS_snoc, ← hm])
        have d0 := hrow.cell hxa
        have d1 := hrow.cell hxb
        obtain ⟨o0, oz⟩ := id hone
        have s0 := hsl.c0
        obtain ⟨x0, x1, x2⟩ := id hX
        have lo := hone.lt
        have lX := hX.lt
        have lr := hrow.lt
        have ls := hsl.lt
        have sB := hb.size
        have HR := Lib.hid hrow
        have HSL := Lib.hid hsl
        have HONE := Lib.hid hone
        have HX := Lib.hid hX
        have hcx : cutX Z3 x = if hasI Z3 x.a = hasI Z3 x.b then 0 else x.s := rfl
        generalize cutX Z3 x = y at *
        generalize hasI Z3 (x.a : Int) = ca at *
        generalize hasI Z3 (x.b : Int) = cb at *
        have hwr : y = x.s → IntKind.i64.wrap (m + x.s) = m + x.s := fun h => IntWalk.i64_in _ (by omega)
        clear hm hrow hsl hone hX
        by_cases hd : ca = cb
        · have hy : y = 0 := by rw [hcx, if_pos hd]
          subst hd
          clear hcx hwr
          gi_wp2
          refine wpIn_region_round (S := (fun w' => w'.cell? ⟨rb + 1, 0, none⟩ = some (.slice (some ⟨rb, 0, none⟩) P2.length P2.length) ∧ w'.cell? ⟨Bx, 0, none⟩ = some (.int .i64 (x.a : Int)) ∧ w'.cell? ⟨Bx, 1, none⟩ = some (.int .i64 (x.b : Int)) ∧ w'.cell? ⟨rb, x.a, none⟩ = some (.bool ca) ∧ w'.cell? ⟨rb, x.b, none⟩ = some (.bool ca))) (by kernel_rfl) (by kernel_rfl) ?_ (fun hHeld => ?_)
          · (try dsimp only)
            (((try go_split_ands); (try dsimp only); (repeat' apply And.intro)) <;> (repeat (first | with_reducible assumption | ((with_reducible refine cnew0 ?_); simp; done) | ((with_reducible refine cnew1 ?_); simp; done) | (with_reducible refine akeep ?_) | (with_reducible refine dkeep ?_) | ((with_reducible refine skeep ?_ ?_); rotate_left; (first | ((try dsimp only); omega) | (simp; done) | (simp; omega))) | (with_reducible refine bkeep hb3 ?_))))
          refine wpAnyH_take (i := 0) (oi := ⟨_, _, _, _, _, _⟩) (v := ?_) rfl (by kernel_rfl) (by kernel_rfl) (by kernel_rfl) (fun _ _ _ h => h) (Or.inl ⟨by rfl, ?_⟩) (by assumption) ?_
          rotate_left
          · (intro w hSw; (try dsimp only at hSw); go_simp; (try with_reducible rfl))
          (try simp only [Act.put, List.setIfInBounds_toArray, List.set_cons_zero, List.set_cons_succ])
          refine wpAnyH_take (i := 1) (oi := ⟨_, _, _, _, _, _⟩) (v := ?_) rfl (by kernel_rfl) (by kernel_rfl) (by kernel_rfl) (fun _ _ _ h => h) (Or.inl ⟨by rfl, ?_⟩) (by assumption) ?_
          rotate_left
          · (intro w hSw; (try dsimp only at hSw); go_simp; (try with_reducible rfl))
          (try simp only [Act.put, List.setIfInBounds_toArray, List.set_cons_zero, List.set_cons_succ])
          refine wpAnyH_take (i := 2) (oi := ⟨_, _, _, _, _, _⟩) (v := ?_) rfl (by kernel_rfl) (by kernel_rfl) (by kernel_rfl) (fun _ _ _ h => h) (Or.inl ⟨by rfl, ?_⟩) (by assumption) ?_
          rotate_left
          · (intro w hSw; (try dsimp only at hSw); go_simp; (try with_reducible rfl))
          (try simp only [Act.put, List.setIfInBounds_toArray, List.set_cons_zero, List.set_cons_succ])
          refine wpAnyH_take (i := 3) (oi := ⟨_, _, _, _, _, _⟩) (v := ?_) rfl (by kernel_rfl) (by kernel_rfl) (by kernel_rfl) (fun _ _ _ h => h) (Or.inl ⟨by rfl, ?_⟩) (by assumption) ?_
          rotate_left
          · (intro w hSw; (try dsimp only at hSw); go_simp; (try with_reducible rfl))
          (try simp only [Act.put, List.setIfInBounds_toArray, List.set_cons_zero, List.set_cons_succ])
          refine wpAnyH_take (i := 4) (oi := ⟨_, _, _, _, _, _⟩) (v := ?_) rfl (by kernel_rfl) (by kernel_rfl) (by kernel_rfl) (fun _ _ _ h => h) (Or.inl ⟨by rfl, ?_⟩) (by assumption) ?_
          rotate_left
          · (intro w hSw; (try dsimp only at hSw); go_simp; (try with_reducible rfl))
          (try simp only [Act.put, List.setIfInBounds_toArray, List.set_cons_zero, List.set_cons_succ])
          refine wpAnyH_take (i := 5) (oi := ⟨_, _, _, _, _, _⟩) (v := ?_) rfl (by kernel_rfl) (by kernel_rfl) (by kernel_rfl) (fun _ _ _ h => h) (Or.inl ⟨by rfl, ?_⟩) (by assumption) ?_
          rotate_left
          · (intro w hSw; (try dsimp only at hSw); go_simp; (try with_reducible rfl))
          (try simp only [Act.put, List.setIfInBounds_toArray, List.set_cons_zero, List.set_cons_succ])
          refine wpAnyH_take (i := 6) (oi := ⟨_, _, _, _, _, _⟩) (v := ?_) rfl (by kernel_rfl) (by kernel_rfl) (by kernel_rfl) (fun _ _ _ h => h) (Or.inl ⟨by rfl, ?_⟩) (by assumption) ?_
          rotate_left
          · (intro w hSw; (try dsimp only at hSw); go_simp; (try with_reducible rfl))
          (try simp only [Act.put, List.setIfInBounds_toArray, List.set_cons_zero, List.set_cons_succ])
          refine wpAnyH_take (i := 7) (oi := ⟨_, _, _, _, _, _⟩) (v := ?_) rfl (by kernel_rfl) (by kernel_rfl) (by kernel_rfl) (fun _ _ _ h => h) (Or.inl ⟨by rfl, ?_⟩) (by assumption) ?_
          rotate_left
          · (intro w hSw; (try dsimp only at hSw); go_simp; (try with_reducible rfl))
          (try simp only [Act.put, List.setIfInBounds_toArray, List.set_cons_zero, List.set_cons_succ])
          refine wpAnyH_take (i := 8) (oi := ⟨_, _, _, _, _, _⟩) (v := ?_) rfl (by kernel_rfl) (by kernel_rfl) (by kernel_rfl) (fun _ _ _ h => h) (Or.inl ⟨by rfl, ?_⟩) (by assumption) ?_
          rotate_left
          · (intro w hSw; (try dsimp only at hSw); go_simp; (try with_reducible rfl))
          (try simp only [Act.put, List.setIfInBounds_toArray, List.set_cons_zero, List.set_cons_succ])
          refine wpAnyH_take (i := 9) (oi := ⟨_, _, _, _, _, _⟩) (v := ?_) rfl (by kernel_rfl) (by kernel_rfl) (by kernel_rfl) (fun _ _ _ h => h) (Or.inl ⟨by rfl, ?_⟩) (by assumption) ?_
          rotate_left
          · (intro w hSw; (try dsimp only at hSw); go_simp; (try with_reducible rfl))
          (try simp only [Act.put, List.setIfInBounds_toArray, List.set_cons_zero, List.set_cons_succ])
          refine wpAnyH_take (i := 10) (oi := ⟨_, _, _, _, _, _⟩) (v := ?_) rfl (by kernel_rfl) (by kernel_rfl) (by kernel_rfl) (fun _ _ _ h => h) (Or.inl ⟨by rfl, ?_⟩) (by assumption) ?_
          rotate_left
          · (intro w hSw; (try dsimp only at hSw); go_simp; (try with_reducible rfl))
          (try simp only [Act.put, List.setIfInBounds_toArray, List.set_cons_zero, List.set_cons_succ])
          refine wpAnyH_done (by kernel_rfl) ?_ _
          dsimp only [onlyN]
          have BD : Below W'.heap.size W' W'.drew := by (repeat (first | exact Below.refl _ _ | refine Below.setCell ?_ (by first | (simp; done) | (simp; omega) | omega) _ | refine belowN ?_ _ | refine Below.drew ?_ | refine Below.alloc ?_ (by first | (simp; done) | (simp; omega) | omega) _ | refine Below.trans ?_ (Below.mono (by assumption) (by first | (simp; done) | (simp; omega) | omega))))
          have zD := BD.size
          have O4 := HONE.out.of_block (BD.block _ lo)
          have R4 := Lib.hid (HR.out.of_block (BD.block _ lr))
          have L4 := Lib.hid (HSL.out.of_block (BD.block _ ls))
          have X4 := HX.out.below BD
          have b4 := hb.trans (BD.mono sB)
          generalize W'.drew = W4 at *
          clear o0 oz s0 x0 x1 x2 d0 d1 hHeld
          obtain ⟨o0, oz⟩ := id O4
          obtain ⟨x0, x1, x2⟩ := id X4
          gi_wp2
          exact ⟨⟨⟨o0.trans (by rw [HY.out, hy, Int.add_zero]), oz⟩, R4.out, L4.out⟩, ⟨fun _ => False, fun _ h => h.elim⟩, Spare.of BD⟩
        · have hy : y = x.s := by rw [hcx, if_neg hd]
          have hw2 := hwr hy
          obtain ⟨rfl, rfl⟩ | ⟨rfl, rfl⟩ : (ca = true ∧ cb = false) ∨ (ca = false ∧ cb = true) := by cases ca <;> cases cb <;> simp_all
          · clear hcx hd hwr
            gi_wp2
            refine wpIn_region_round (S := (fun w' => w'.cell? ⟨rb + 1, 0, none⟩ = some (.slice (some ⟨rb, 0, none⟩) P2.length P2.length) ∧ w'.cell? ⟨Bx, 0, none⟩ = some (.int .i64 (x.a : Int)) ∧ w'.cell? ⟨Bx, 1, none⟩ = some (.int .i64 (x.b : Int)) ∧ w'.cell? ⟨rb, x.a, none⟩ = some (.bool true) ∧ w'.cell? ⟨rb, x.b, none⟩ = some (.bool false))) (by kernel_rfl) (by kernel_rfl) ?_ (fun hHeld => ?_)
            · (try dsimp only)
              (((try go_split_ands); (try dsimp only); (repeat' apply And.intro)) <;> (repeat (first | with_reducible assumption | ((with_reducible refine cnew0 ?_); simp; done) | ((with_reducible refine cnew1 ?_); simp; done) | (with_reducible refine akeep ?_) | (with_reducible refine dkeep ?_) | ((with_reducible refine skeep ?_ ?_); rotate_left; (first | ((try dsimp only); omega) | (simp; done) | (simp; omega))) | (with_reducible refine bkeep hb3 ?_))))
            refine wpAnyH_take (i := 0) (oi := ⟨_, _, _, _, _, _⟩) (v := ?_) rfl (by kernel_rfl) (by kernel_rfl) (by kernel_rfl) (fun _ _ _ h => h) (Or.inl ⟨by rfl, ?_⟩) (by assumption) ?_
            rotate_left
            · (intro w hSw; (try dsimp only at hSw); go_simp; (try with_reducible rfl))
            (try simp only [Act.put, List.setIfInBounds_toArray, List.set_cons_zero, List.set_cons_succ])
            refine wpAnyH_take (i := 1) (oi := ⟨_, _, _, _, _, _⟩) (v := ?_) rfl (by kernel_rfl) (by kernel_rfl) (by kernel_rfl) (fun _ _ _ h => h) (Or.inl ⟨by rfl, ?_⟩) (by assumption) ?_
            rotate_left
            · (intro w hSw; (try dsimp only at hSw); go_simp; (try with_reducible rfl))
            (try simp only [Act.put, List.setIfInBounds_toArray, List.set_cons_zero, List.set_cons_succ])
            refine wpAnyH_take (i := 2) (oi := ⟨_, _, _, _, _, _⟩) (v := ?_) rfl (by kernel_rfl) (by kernel_rfl) (by kernel_rfl) (fun _ _ _ h => h) (Or.inl ⟨by rfl, ?_⟩) (by assumption) ?_
            rotate_left
            · (intro w hSw; (try dsimp only at hSw); go_simp; (try with_reducible rfl))
            (try simp only [Act.put, List.setIfInBounds_toArray, List.set_cons_zero, List.set_cons_succ])
            refine wpAnyH_take (i := 3) (oi := ⟨_, _, _, _, _, _⟩) (v := ?_) rfl (by kernel_rfl) (by kernel_rfl) (by kernel_rfl) (fun _ _ _ h => h) (Or.inl ⟨by rfl, ?_⟩) (by assumption) ?_
            rotate_left
            · (intro w hSw; (try dsimp only at hSw); go_simp; (try with_reducible rfl))
            (try simp only [Act.put, List.setIfInBounds_toArray, List.set_cons_zero, List.set_cons_succ])
            refine wpAnyH_take (i := 4) (oi := ⟨_, _, _, _, _, _⟩) (v := ?_) rfl (by kernel_rfl) (by kernel_rfl) (by kernel_rfl) (fun _ _ _ h => h) (Or.inl ⟨by rfl, ?_⟩) (by assumption) ?_
            rotate_left
            · (intro w hSw; (try dsimp only at hSw); go_simp; (try with_reducible rfl))
            (try simp only [Act.put, List.setIfInBounds_toArray, List.set_cons_zero, List.set_cons_succ])
            refine wpAnyH_take (i := 5) (oi := ⟨_, _, _, _, _, _⟩) (v := ?_) rfl (by kernel_rfl) (by kernel_rfl) (by kernel_rfl) (fun _ _ _ h => h) (Or.inl ⟨by rfl, ?_⟩) (by assumption) ?_
            rotate_left
            · (intro w hSw; (try dsimp only at hSw); go_simp; (try with_reducible rfl))
            (try simp only [Act.put, List.setIfInBounds_toArray, List.set_cons_zero, List.set_cons_succ])
            refine wpAnyH_take (i := 6) (oi := ⟨_, _, _, _, _, _⟩) (v := ?_) rfl (by kernel_rfl) (by kernel_rfl) (by kernel_rfl) (fun _ _ _ h => h) (Or.inl ⟨by rfl, ?_⟩) (by assumption) ?_
            rotate_left
            · (intro w hSw; (try dsimp only at hSw); go_simp; (try with_reducible rfl))
            (try simp only [Act.put, List.setIfInBounds_toArray, List.set_cons_zero, List.set_cons_succ])
            refine wpAnyH_take (i := 7) (oi := ⟨_, _, _, _, _, _⟩) (v := ?_) rfl (by kernel_rfl) (by kernel_rfl) (by kernel_rfl) (fun _ _ _ h => h) (Or.inl ⟨by rfl, ?_⟩) (by assumption) ?_
            rotate_left
            · (intro w hSw; (try dsimp only at hSw); go_simp; (try with_reducible rfl))
            (try simp only [Act.put, List.setIfInBounds_toArray, List.set_cons_zero, List.set_cons_succ])
            refine wpAnyH_take (i := 8) (oi := ⟨_, _, _, _, _, _⟩) (v := ?_) rfl (by kernel_rfl) (by kernel_rfl) (by kernel_rfl) (fun _ _ _ h => h) (Or.inl ⟨by rfl, ?_⟩) (by assumption) ?_
            rotate_left
            · (intro w hSw; (try dsimp only at hSw); go_simp; (try with_reducible rfl))
            (try simp only [Act.put, List.setIfInBounds_toArray, List.set_cons_zero, List.set_cons_succ])
            refine wpAnyH_take (i := 9) (oi := ⟨_, _, _, _, _, _⟩) (v := ?_) rfl (by kernel_rfl) (by kernel_rfl) (by kernel_rfl) (fun _ _ _ h => h) (Or.inl ⟨by rfl, ?_⟩) (by assumption) ?_
            rotate_left
            · (intro w hSw; (try dsimp only at hSw); go_simp; (try with_reducible rfl))
            (try simp only [Act.put, List.setIfInBounds_toArray, List.set_cons_zero, List.set_cons_succ])
            refine wpAnyH_take (i := 10) (oi := ⟨_, _, _, _, _, _⟩) (v := ?_) rfl (by kernel_rfl) (by kernel_rfl) (by kernel_rfl) (fun _ _ _ h => h) (Or.inl ⟨by rfl, ?_⟩) (by assumption) ?_
            rotate_left
            · (intro w hSw; (try dsimp only at hSw); go_simp; (try with_reducible rfl))
            (try simp only [Act.put, List.setIfInBounds_toArray, List.set_cons_zero, List.set_cons_succ])
            refine wpAnyH_done (by kernel_rfl) ?_ _
            dsimp only [onlyN]
            have BD : Below W'.heap.size W' W'.drew := by (repeat (first | exact Below.refl _ _ | refine Below.setCell ?_ (by first | (simp; done) | (simp; omega) | omega) _ | refine belowN ?_ _ | refine Below.drew ?_ | refine Below.alloc ?_ (by first | (simp; done) | (simp; omega) | omega) _ | refine Below.trans ?_ (Below.mono (by assumption) (by first | (simp; done) | (simp; omega) | omega))))
            have zD := BD.size
            have O4 := HONE.out.of_block (BD.block _ lo)
            have R4 := Lib.hid (HR.out.of_block (BD.block _ lr))
            have L4 := Lib.hid (HSL.out.of_block (BD.block _ ls))
            have X4 := HX.out.below BD
            have b4 := hb.trans (BD.mono sB)
            generalize W'.drew = W4 at *
            clear o0 oz s0 x0 x1 x2 d0 d1 hHeld
            obtain ⟨o0, oz⟩ := id O4
            obtain ⟨x0, x1, x2⟩ := id X4
            gi_wp2
            exact ⟨⟨⟨(World.cell?_setCell_same _ _ _ o0).trans (by rw [HY.out, hy]), by rw [World.frozen?_setCell]; exact oz⟩, R4.out.of_block (Below.heap_setCell _ _ _ _ (by dsimp only; omega)), L4.out.of_block (Below.heap_setCell _ _ _ _ (by dsimp only; omega)), b4.setCell (p := ⟨sb, 0, none⟩) (by dsimp only; omega) _⟩, ⟨fun _ => False, fun _ h => h.elim⟩, (Spare.of BD).trans (Spare.set (by simp) (.inl (by dsimp only; omega)) _)⟩
          · clear hcx hd hwr
            gi_wp2
            refine wpIn_region_round (S := (fun w' => w'.cell? ⟨rb + 1, 0, none⟩ = some (.slice (some ⟨rb, 0, none⟩) P2.length P2.length) ∧ w'.cell? ⟨Bx, 0, none⟩ = some (.int .i64 (x.a : Int)) ∧ w'.cell? ⟨Bx, 1, none⟩ = some (.int .i64 (x.b : Int)) ∧ w'.cell? ⟨rb, x.a, none⟩ = some (.bool false) ∧ w'.cell? ⟨rb, x.b, none⟩ = some (.bool true))) (by kernel_rfl) (by kernel_rfl) ?_ (fun hHeld => ?_)
            · (try dsimp only)
              (((try go_split_ands); (try dsimp only); (repeat' apply And.intro)) <;> (repeat (first | with_reducible assumption | ((with_reducible refine cnew0 ?_); simp; done) | ((with_reducible refine cnew1 ?_); simp; done) | (with_reducible refine akeep ?_) | (with_reducible refine dkeep ?_) | ((with_reducible refine skeep ?_ ?_); rotate_left; (first | ((try dsimp only); omega) | (simp; done) | (simp; omega))) | (with_reducible refine bkeep hb3 ?_))))
            refine wpAnyH_take (i := 0) (oi := ⟨_, _, _, _, _, _⟩) (v := ?_) rfl (by kernel_rfl) (by kernel_rfl) (by kernel_rfl) (fun _ _ _ h => h) (Or.inl ⟨by rfl, ?_⟩) (by assumption) ?_
            rotate_left
            · (intro w hSw; (try dsimp only at hSw); go_simp; (try with_reducible rfl))
            (try simp only [Act.put, List.setIfInBounds_toArray, List.set_cons_zero, List.set_cons_succ])
            refine wpAnyH_take (i := 1) (oi := ⟨_, _, _, _, _, _⟩) (v := ?_) rfl (by kernel_rfl) (by kernel_rfl) (by kernel_rfl) (fun _ _ _ h => h) (Or.inl ⟨by rfl, ?_⟩) (by assumption) ?_
            rotate_left
            · (intro w hSw; (try dsimp only at hSw); go_simp; (try with_reducible rfl))
            (try simp only [Act.put, List.setIfInBounds_toArray, List.set_cons_zero, List.set_cons_succ])
            refine wpAnyH_take (i := 2) (oi := ⟨_, _, _, _, _, _⟩) (v := ?_) rfl (by kernel_rfl) (by kernel_rfl) (by kernel_rfl) (fun _ _ _ h => h) (Or.inl ⟨by rfl, ?_⟩) (by assumption) ?_
            rotate_left
            · (intro w hSw; (try dsimp only at hSw); go_simp; (try with_reducible rfl))
            (try simp only [Act.put, List.setIfInBounds_toArray, List.set_cons_zero, List.set_cons_succ])
            refine wpAnyH_take (i := 3) (oi := ⟨_, _, _, _, _, _⟩) (v := ?_) rfl (by kernel_rfl) (by kernel_rfl) (by kernel_rfl) (fun _ _ _ h => h) (Or.inl ⟨by rfl, ?_⟩) (by assumption) ?_
            rotate_left
            · (intro w hSw; (try dsimp only at hSw); go_simp; (try with_reducible rfl))
            (try simp only [Act.put, List.setIfInBounds_toArray, List.set_cons_zero, List.set_cons_succ])
            refine wpAnyH_take (i := 4) (oi := ⟨_, _, _, _, _, _⟩) (v := ?_) rfl (by kernel_rfl) (by kernel_rfl) (by kernel_rfl) (fun _ _ _ h => h) (Or.inl ⟨by rfl, ?_⟩) (by assumption) ?_
            rotate_left
            · (intro w hSw; (try dsimp only at hSw); go_simp; (try with_reducible rfl))
            (try simp only [Act.put, List.setIfInBounds_toArray, List.set_cons_zero, List.set_cons_succ])
            refine wpAnyH_take (i := 5) (oi := ⟨_, _, _, _, _, _⟩) (v := ?_) rfl (by kernel_rfl) (by kernel_rfl) (by kernel_rfl) (fun _ _ _ h => h) (Or.inl ⟨by rfl, ?_⟩) (by assumption) ?_
            rotate_left
            · (intro w hSw; (try dsimp only at hSw); go_simp; (try with_reducible rfl))
            (try simp only [Act.put, List.setIfInBounds_toArray, List.set_cons_zero, List.set_cons_succ])
            refine wpAnyH_take (i := 6) (oi := ⟨_, _, _, _, _, _⟩) (v := ?_) rfl (by kernel_rfl) (by kernel_rfl) (by kernel_rfl) (fun _ _ _ h => h) (Or.inl ⟨by rfl, ?_⟩) (by assumption) ?_
            rotate_left
            · (intro w hSw; (try dsimp only at hSw); go_simp; (try with_reducible rfl))
            (try simp only [Act.put, List.setIfInBounds_toArray, List.set_cons_zero, List.set_cons_succ])
            refine wpAnyH_take (i := 7) (oi := ⟨_, _, _, _, _, _⟩) (v := ?_) rfl (by kernel_rfl) (by kernel_rfl) (by kernel_rfl) (fun _ _ _ h => h) (Or.inl ⟨by rfl, ?_⟩) (by assumption) ?_
            rotate_left
            · (intro w hSw; (try dsimp only at hSw); go_simp; (try with_reducible rfl))
            (try simp only [Act.put, List.setIfInBounds_toArray, List.set_cons_zero, List.set_cons_succ])
            refine wpAnyH_take (i := 8) (oi := ⟨_, _, _, _, _, _⟩) (v := ?_) rfl (by kernel_rfl) (by kernel_rfl) (by kernel_rfl) (fun _ _ _ h => h) (Or.inl ⟨by rfl, ?_⟩) (by assumption) ?_
            rotate_left
            · (intro w hSw; (try dsimp only at hSw); go_simp; (try with_reducible rfl))
            (try simp only [Act.put, List.setIfInBounds_toArray, List.set_cons_zero, List.set_cons_succ])
            refine wpAnyH_take (i := 9) (oi := ⟨_, _, _, _, _, _⟩) (v := ?_) rfl (by kernel_rfl) (by kernel_rfl) (by kernel_rfl) (fun _ _ _ h => h) (Or.inl ⟨by rfl, ?_⟩) (by assumption) ?_
            rotate_left
            · (intro w hSw; (try dsimp only at hSw); go_simp; (try with_reducible rfl))
            (try simp only [Act.put, List.setIfInBounds_toArray, List.set_cons_zero, List.set_cons_succ])
            refine wpAnyH_take (i := 10) (oi := ⟨_, _, _, _, _, _⟩) (v := ?_) rfl (by kernel_rfl) (by kernel_rfl) (by kernel_rfl) (fun _ _ _ h => h) (Or.inl ⟨by rfl, ?_⟩) (by assumption) ?_
            rotate_left
            · (intro w hSw; (try dsimp only at hSw); go_simp; (try with_reducible rfl))
            (try simp only [Act.put, List.setIfInBounds_toArray, List.set_cons_zero, List.set_cons_succ])
            refine wpAnyH_done (by kernel_rfl) ?_ _
            dsimp only [onlyN]
            have BD : Below W'.heap.size W' W'.drew := by (repeat (first | exact Below.refl _ _ | refine Below.setCell ?_ (by first | (simp; done) | (simp; omega) | omega) _ | refine belowN ?_ _ | refine Below.drew ?_ | refine Below.alloc ?_ (by first | (simp; done) | (simp; omega) | omega) _ | refine Below.trans ?_ (Below.mono (by assumption) (by first | (simp; done) | (simp; omega) | omega))))
            have zD := BD.size
            have O4 := HONE.out.of_block (BD.block _ lo)
            have R4 := Lib.hid (HR.out.of_block (BD.block _ lr))
            have L4 := Lib.hid (HSL.out.of_block (BD.block _ ls))
            have X4 := HX.out.below BD
            have b4 := hb.trans (BD.mono sB)
            generalize W'.drew = W4 at *
            clear o0 oz s0 x0 x1 x2 d0 d1 hHeld
            obtain ⟨o0, oz⟩ := id O4
            obtain ⟨x0, x1, x2⟩ := id X4
            gi_wp2
            exact ⟨⟨⟨(World.cell?_setCell_same _ _ _ o0).trans (by rw [HY.out, hy]), by rw [World.frozen?_setCell]; exact oz⟩, R4.out.of_block (Below.heap_setCell _ _ _ _ (by dsimp only; omega)), L4.out.of_block (Below.heap_setCell _ _ _ _ (by dsimp only; omega)), b4.setCell (p := ⟨sb, 0, none⟩) (by dsimp only; omega) _⟩, ⟨fun _ => False, fun _ h => h.elim⟩, (Spare.of BD).trans (Spare.set (by simp) (.inl (by dsimp only; omega)) _)⟩
      case done =>
        rintro C W3 hzW ⟨⟨m, hm, hone⟩, -, -, hb⟩ nD hK
        obtain ⟨o0, oz⟩ := id hone
        gi_wp2
        refine ⟨by simp, .inl ⟨_, _, rfl, run_takeDeferred hK, ?_⟩⟩
        refine ⟨_, results_tmp2 rfl _ _ _, ?_, hb.trans ((Below.refl _ W3).grown (grownBy_putObj' W3 _ _) hb.size (fun k e => by cases e; omega))⟩
        rw [K.out.1, K.out.2, ← hm]
        rfl
end Go.Proofs.YtnofbeeihdgmdaaDoor
