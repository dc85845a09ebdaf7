/-
  The assembly of some tiles of an assembly, the model's and the program's. Conditions: each theorem's own.
-/
import Derived.Test.YtnofbeeihdgmdaaPart
import Derived.Test.YtnofbeeihdgmdaaPut
namespace Go.Proofs.Ytnofbeeihdgmdaa
open Go.RowKit

/-- The placed tiles at these places. -/
def subP (P : List Pl) (zs : List Int) : List Pl := zs.map fun z => P.getD z.toNat default
theorem subP_len (P : List Pl) (zs : List Int) : (subP P zs).length = zs.length := by simp [subP]
theorem subP_pC {P : List Pl} {zs : List Int} {k m : Nat} (hk : k < zs.length) (h : iAt zs k = (m : Int)) (j : Nat) : pC (subP P zs) k j = pC P m j := by
  have h' : zs[k] = (m : Int) := by simpa [iAt, hk] using h
  have e : (subP P zs).getD k default = P.getD m default := by simp [subP, hk, h']
  simp only [pC, pX, pY, pT, e]
open Classical in
noncomputable def saC (P : List Pl) (zs : List Int) : Int := if formB P = true then (if riseB zs 0 ((P.length : Int) - 1) = true then 0 else 2) else 1
noncomputable def saR (P : List Pl) (zs : List Int) : List Pl := if saC P zs = 0 then subP P zs else []
theorem sa_1 {P : List Pl} {zs : List Int} (h : formB P = false) : saC P zs = 1 := by simp [saC, h]
theorem sa_2 {P : List Pl} {zs : List Int} (h : formB P = true) (h2 : riseB zs 0 ((P.length : Int) - 1) = false) : saC P zs = 2 := by simp [saC, h, h2]
theorem sa_0 {P : List Pl} {zs : List Int} (h : formB P = true) (h2 : riseB zs 0 ((P.length : Int) - 1) = true) : saC P zs = 0 := by simp [saC, h, h2]
theorem saR_no {P : List Pl} {zs : List Int} {c : Int} (h : saC P zs = c) (h0 : c ≠ 0) : saR P zs = [] := by unfold saR; rw [if_neg (by rw [h]; exact h0)]
theorem saR_yes {P : List Pl} {zs : List Int} (h : saC P zs = 0) : saR P zs = subP P zs := by unfold saR; rw [if_pos h]
theorem smallSubAssembly {P : List Pl} {zs : List Int} (_h : P.length ≤ 1048576) (h2 : zs.length ≤ 1048576) : (saR P zs).length ≤ 1048576 := by
  unfold saR
  split
  · rw [subP_len]; exact h2
  · exact Nat.zero_le _
theorem rise_len {zs : List Int} {n : Nat} (h : Rise zs 0 ((n : Int) - 1)) : zs.length ≤ n := by
  have key : ∀ i, i < zs.length → (i : Int) ≤ iAt zs i := fun i => by
    induction i with
    | zero => intro hi; exact (inB_iff.1 (h 0 hi).in_).1
    | succ i ih => intro hi; have a := ih (by omega); have b := (h (i + 1) hi).lt (by omega); simp only [Nat.add_sub_cancel] at b; omega
  by_cases h0 : zs.length = 0
  · omega
  · have a := key (zs.length - 1) (by omega)
    have b := (inB_iff.1 (h (zs.length - 1) (by omega)).in_).2
    omega

/-- The two boxes of the model's list: the result, the list that grows. -/
structure SubB (c : Nat) (w : World) (v : Value) : Prop where
  r : One w c (.slice none 0 0)
  q : One w (c + 1) v
theorem SubB.new (w : World) (t3 t4 : TypeId) : SubB w.heap.size ((w.alloc (.cells #[.slice none 0 0] t3)).alloc (.cells #[.slice none 0 0] t4)) (.slice none 0 0) :=
  ⟨⟨by simp [go_sem], by simp [go_sem]⟩, ⟨by simp [go_sem], by simp [go_sem]⟩⟩
theorem SubB.below {c : Nat} {w w1 : World} {v : Value} (h : SubB c w v) (hb : Below w.heap.size w w1) : SubB c w1 v := ⟨h.r.below hb, h.q.below hb⟩
theorem SubB.drew {c : Nat} {w : World} {v : Value} (h : SubB c w v) : SubB c w.drew v := ⟨⟨h.r.c0, h.r.z0⟩, ⟨h.q.c0, h.q.z0⟩⟩
theorem SubB.alloc {c : Nat} {w : World} {v : Value} (h : SubB c w v) (o : Obj) : SubB c (w.alloc o) v := h.below (by (repeat (first | exact Below.refl _ _ | refine Below.setCell ?_ (by first | (simp; done) | (simp; omega) | omega) _ | refine belowN ?_ _ | refine Below.drew ?_ | refine Below.alloc ?_ (by first | (simp; done) | (simp; omega) | omega) _ | refine Below.trans ?_ (Below.mono (by assumption) (by first | (simp; done) | (simp; omega) | omega)))))
theorem SubB.grown {c : Nat} {w w1 : World} {v : Value} (h : SubB c w v) (hg : w.grownBy w1 v.ownBlock) (hge : ∀ j, v.ownBlock = some j → c + 1 + 1 ≤ j) : SubB c w1 v := by
  have n1 : some c ≠ v.ownBlock := fun a => by have := hge _ a.symm; omega
  have n2 : some (c + 1) ≠ v.ownBlock := fun a => by have := hge _ a.symm; omega
  exact ⟨⟨gkeep hg h.r.c0 n1, gfkeep hg h.r.z0 h.r.lt n1⟩, ⟨gkeep hg h.q.c0 n2, gfkeep hg h.q.z0 h.q.lt n2⟩⟩
theorem SubB.set {c : Nat} {w : World} {v : Value} (h : SubB c w v) (u : Value) : SubB c (w.setCell ⟨c + 1, 0, none⟩ u) u :=
  ⟨⟨skeep h.r.c0 (by dsimp only; omega), by rw [World.frozen?_setCell]; exact h.r.z0⟩, ⟨World.cell?_setCell_same _ _ _ h.q.c0, by rw [World.frozen?_setCell]; exact h.q.z0⟩⟩

set_option maxRecDepth 100000 in
set_option maxHeartbeats 4000000 in
set_option linter.unusedSimpArgs false in
theorem l06Sub_any (p : Nat) (vp v : Value) (P : List Pl) (zs : List Int) (w : World) (hp : At1 w p vp) (hps : Plcs w vp P) (h500 : P.length ≤ 500) (hv : Ints w v zs) (hr : Rise zs 0 ((P.length : Int) - 1)) :
    Calls Try.prog 41 #[.pointer (some ⟨p, 0, none⟩), v] w fun e w' => AgPost w (subP P zs) e w' ∧ Below w.heap.size w w' := by
  obtain ⟨ao, cap, rfl, hl, hm, hc⟩ := hps.open_
  obtain ⟨zo, zcap, rfl, hzl, hzm, hzc⟩ := hv.open_
  unfold maxLen at hm hzm
  have H0 := Lib.hid hc
  have HZ := Lib.hid hzc
  have HR := Lib.hid hr
  have r0 := hp.c0
  have hplt := hp.lt
  have hzn := rise_len hr
  have HB := Lib.hid (SubB.new w 29 29)
  obtain ⟨i0, hi, hz0, hz1, hz2⟩ := info_parts info_placed
  clear hc hzc hv hp hps hr
  go_enter Try.func41, Try.ntmps41
  go_wp2_with fail
  go_loopw [6] (fun i wr => ∃ (k : Nat) (xv : Value), k ≤ zs.length ∧ i = .int .i64 k ∧ SubB w.heap.size wr xv ∧ wr.ownsRow (w.heap.size + 1 + 1) 67 3 xv k (cRow 3 (pC (subP P zs)) k) ∧ Below w.heap.size w wr) (fun i _ => zs.length - (intOf i).toNat)
  case atStart => exact ⟨0, _, by omega, rfl, HB.out, ⟨rfl, .inl ⟨rfl, rfl⟩⟩, by (repeat (first | exact Below.refl _ _ | refine Below.setCell ?_ (by first | (simp; done) | (simp; omega) | omega) _ | refine belowN ?_ _ | refine Below.drew ?_ | refine Below.alloc ?_ (by first | (simp; done) | (simp; omega) | omega) _ | refine Below.trans ?_ (Below.mono (by assumption) (by first | (simp; done) | (simp; omega) | omega))))⟩
  case round =>
    clear HB
    obtain ⟨k, xv, hk, rfl, hbx, hown, hbw⟩ := hrel
    have sw := hbw.size
    have r1 := cell_below hbw r0
    have HX := Lib.hid hbx
    have HO := Lib.hid hown
    have ql := hbx.q.lt
    obtain ⟨rr, qq⟩ := hbx
    obtain ⟨x0, zx⟩ := rr
    obtain ⟨q0, zq⟩ := qq
    clear hown
    by_cases hlt : k < zs.length
    · have hat := inB_iff.1 (HR.out k hlt).in_
      obtain ⟨m, hme⟩ : ∃ m : Nat, iAt zs k = (m : Int) := ⟨(iAt zs k).toNat, by omega⟩
      have hmP : m < P.length := by omega
      have hmP2 : (m : Int) < P.length := by omega
      obtain ⟨b, off, rfl, H1⟩ := H0.out (by omega)
      obtain ⟨bz, oz, rfl, H2⟩ := HZ.out (by omega)
      have hbl : b < w.heap.size := World.block_lt_of_cell? w _ (H1 m hmP).1
      have hbz : bz < w.heap.size := World.block_lt_of_cell? w _ (H2 k hlt)
      obtain ⟨c0, c1, c2⟩ := H1 m hmP
      have c0 := cell_below hbw c0
      have c1 := cell_below hbw c1
      have c2 := cell_below hbw c2
      have e0 := cell_below hbw (H2 k hlt)
      rw [hme] at e0
      have HC : Hid (cCells 3 (pC (subP P zs)) k = [.int .i64 (pX P m), .int .i64 (pY P m), .int .i64 (pT P m)]) := Lib.hid (by
        show [Value.int .i64 (pC (subP P zs) k 0), Value.int .i64 (pC (subP P zs) k 1), Value.int .i64 (pC (subP P zs) k 2)] = _
        rw [subP_pC hlt hme, subP_pC hlt hme, subP_pC hlt hme]; rfl)
      have HME := Lib.hid hme
      clear hat hme x0 zx
      go_wp2_with fail
      refine wp_region_held_drew (S := (fun w' => w'.cell? ⟨p, 0, none⟩ = some (.slice (some ⟨b, off, none⟩) P.length cap) ∧ w'.cell? ⟨bz, oz + k, none⟩ = some (.int .i64 (m : Int)) ∧ w'.cell? ⟨b, off + m * 3, none⟩ = some (.int .i64 (pX P m)) ∧ w'.cell? ⟨b, off + m * 3 + 1, none⟩ = some (.int .i64 (pY P m)) ∧ w'.cell? ⟨b, off + m * 3 + 2, none⟩ = some (.int .i64 (pT P m)))) (by kernel_rfl) ?_ (fun hHeld => ?_)
      · (try dsimp only)
        (((try go_split_ands); (try dsimp only); (repeat' apply And.intro)) <;> (repeat (first | with_reducible assumption | ((with_reducible refine cnew0 ?_); simp; done) | ((with_reducible refine cnew1 ?_); simp; done) | (with_reducible refine akeep ?_) | (with_reducible refine dkeep ?_) | ((with_reducible refine skeep ?_ ?_); rotate_left; (first | ((try dsimp only); omega) | (simp; done) | (simp; omega))) | (with_reducible refine bkeep hb3 ?_))))
      refine wpAnyH_take (i := 0) (oi := ⟨_, _, _, _, _, _⟩) (v := ?_) rfl (by kernel_rfl) (by kernel_rfl) (by kernel_rfl) (fun _ _ _ h => h) (Or.inl ⟨by rfl, ?_⟩) (by assumption) ?_
      rotate_left
      · (intro w hSw; (try dsimp only at hSw); go_simp; (try with_reducible rfl))
      (try simp only [Act.put, List.setIfInBounds_toArray, List.set_cons_zero, List.set_cons_succ])
      refine wpAnyH_take (i := 2) (oi := ⟨_, _, _, _, _, _⟩) (v := ?_) rfl (by kernel_rfl) (by kernel_rfl) (by kernel_rfl) (fun _ _ _ h => h) (Or.inl ⟨by rfl, ?_⟩) (by assumption) ?_
      rotate_left
      · (intro w hSw; (try dsimp only at hSw); go_simp; (try with_reducible rfl))
      (try simp only [Act.put, List.setIfInBounds_toArray, List.set_cons_zero, List.set_cons_succ])
      refine wpAnyH_take (i := 3) (oi := ⟨_, _, _, _, _, _⟩) (v := ?_) rfl (by kernel_rfl) (by kernel_rfl) (by kernel_rfl) (fun _ _ _ h => h) (Or.inl ⟨by rfl, ?_⟩) (by assumption) ?_
      rotate_left
      · (intro w hSw; (try dsimp only at hSw); go_simp; (try with_reducible rfl))
      (try simp only [Act.put, List.setIfInBounds_toArray, List.set_cons_zero, List.set_cons_succ])
      refine wpAnyH_take (i := 4) (oi := ⟨_, _, _, _, _, _⟩) (v := ?_) rfl (by kernel_rfl) (by kernel_rfl) (by kernel_rfl) (fun _ _ _ h => h) (Or.inl ⟨by rfl, ?_⟩) (by assumption) ?_
      rotate_left
      · (intro w hSw; (try dsimp only at hSw); go_simp; (try with_reducible rfl))
      (try simp only [Act.put, List.setIfInBounds_toArray, List.set_cons_zero, List.set_cons_succ])
      refine wpAnyH_take (i := 5) (oi := ⟨_, _, _, _, _, _⟩) (v := ?_) rfl (by kernel_rfl) (by kernel_rfl) (by kernel_rfl) (fun _ _ _ h => h) (Or.inl ⟨by rfl, ?_⟩) (by assumption) ?_
      rotate_left
      · (intro w hSw; (try dsimp only at hSw); go_simp; (try with_reducible rfl))
      (try simp only [Act.put, List.setIfInBounds_toArray, List.set_cons_zero, List.set_cons_succ])
      refine wpAnyH_take (i := 6) (oi := ⟨_, _, _, _, _, _⟩) (v := ?_) rfl (by kernel_rfl) (by kernel_rfl) (by kernel_rfl) (fun _ _ _ h => h) (Or.inl ⟨by rfl, ?_⟩) (by assumption) ?_
      rotate_left
      · (intro w hSw; (try dsimp only at hSw); go_simp; (try with_reducible rfl))
      (try simp only [Act.put, List.setIfInBounds_toArray, List.set_cons_zero, List.set_cons_succ])
      refine wpAnyH_take (i := 7) (oi := ⟨_, _, _, _, _, _⟩) (v := ?_) rfl (by kernel_rfl) (by kernel_rfl) (by kernel_rfl) (fun _ _ _ h => h) (Or.inl ⟨by rfl, ?_⟩) (by assumption) ?_
      rotate_left
      · (intro w hSw; (try dsimp only at hSw); go_simp; (try with_reducible rfl))
      (try simp only [Act.put, List.setIfInBounds_toArray, List.set_cons_zero, List.set_cons_succ])
      refine wpAnyH_take (i := 8) (oi := ⟨_, _, _, _, _, _⟩) (v := ?_) rfl (by kernel_rfl) (by kernel_rfl) (by kernel_rfl) (fun _ _ _ h => h) (Or.inl ⟨by rfl, ?_⟩) (by assumption) ?_
      rotate_left
      · (intro w hSw; (try dsimp only at hSw); go_simp; (try with_reducible rfl))
      (try simp only [Act.put, List.setIfInBounds_toArray, List.set_cons_zero, List.set_cons_succ])
      refine wpAnyH_take (i := 9) (oi := ⟨_, _, _, _, _, _⟩) (v := ?_) rfl (by kernel_rfl) (by kernel_rfl) (by kernel_rfl) (fun _ _ _ h => h) (Or.inl ⟨by rfl, ?_⟩) (by assumption) ?_
      rotate_left
      · (intro w hSw; (try dsimp only at hSw); go_simp; (try with_reducible rfl))
      (try simp only [Act.put, List.setIfInBounds_toArray, List.set_cons_zero, List.set_cons_succ])
      refine wpAnyH_take (i := 10) (oi := ⟨_, _, _, _, _, _⟩) (v := ?_) rfl (by kernel_rfl) (by kernel_rfl) (by kernel_rfl) (fun _ _ _ h => h) (Or.inl ⟨by rfl, ?_⟩) (by assumption) ?_
      rotate_left
      · (intro w hSw; (try dsimp only at hSw); go_simp; (try with_reducible rfl))
      (try simp only [Act.put, List.setIfInBounds_toArray, List.set_cons_zero, List.set_cons_succ])
      refine wpAnyH_take (i := 11) (oi := ⟨_, _, _, _, _, _⟩) (v := ?_) rfl (by kernel_rfl) (by kernel_rfl) (by kernel_rfl) (fun _ _ _ h => h) (Or.inl ⟨by rfl, ?_⟩) (by assumption) ?_
      rotate_left
      · (intro w hSw; (try dsimp only at hSw); go_simp; (try with_reducible rfl))
      (try simp only [Act.put, List.setIfInBounds_toArray, List.set_cons_zero, List.set_cons_succ])
      refine wpAnyH_ready (rs := [1, 12]) (by kernel_rfl) (by simp) ?_
      refine AllReadyH.cons (o := ⟨_, _, _, _, _, _⟩) rfl (fun K hK => ?_) (AllReadyH.cons (o := ⟨_, _, _, _, _, _⟩) rfl (fun K hK => ?_) AllReadyH.nil)
      focus
        go_simp
        refine hK.out _ _ ?_ (fun hHeld => ?_)
        · (try dsimp only)
          (((try go_split_ands); (try dsimp only); (repeat' apply And.intro)) <;> (repeat (first | with_reducible assumption | ((with_reducible refine cnew0 ?_); simp; done) | ((with_reducible refine cnew1 ?_); simp; done) | (with_reducible refine akeep ?_) | (with_reducible refine dkeep ?_) | ((with_reducible refine skeep ?_ ?_); rotate_left; (first | ((try dsimp only); omega) | (simp; done) | (simp; omega))) | (with_reducible refine bkeep hb3 ?_))))
        clear hK K
        (try simp only [Act.put, List.setIfInBounds_toArray, List.set_cons_zero, List.set_cons_succ])
        refine wpAnyH_ready (rs := [12]) (by kernel_rfl) (by simp) ?_
        refine AllReadyH.cons (o := ⟨_, _, _, _, _, _⟩) rfl (fun K hK => ?_) AllReadyH.nil
        go_simp
        refine hK.out _ _ ?_ (fun hHeld => ?_)
        · (try dsimp only)
          (((try go_split_ands); (try dsimp only); (repeat' apply And.intro)) <;> (repeat (first | with_reducible assumption | ((with_reducible refine cnew0 ?_); simp; done) | ((with_reducible refine cnew1 ?_); simp; done) | (with_reducible refine akeep ?_) | (with_reducible refine dkeep ?_) | ((with_reducible refine skeep ?_ ?_); rotate_left; (first | ((try dsimp only); omega) | (simp; done) | (simp; omega))) | (with_reducible refine bkeep hb3 ?_))))
        clear hK K
        (try simp only [Act.put, List.setIfInBounds_toArray, List.set_cons_zero, List.set_cons_succ])
        refine wpAnyH_ready (rs := [13]) (by kernel_rfl) (by simp) ?_
        refine AllReadyH.cons (o := ⟨_, _, _, _, _, _⟩) rfl (fun K hK => ?_) AllReadyH.nil
        refine step_append_own _ rfl _ _ 27 rfl (w.heap.size + 1 + 1) 67 i0 (.agg #[.int .i64 0, .int .i64 0, .int .i64 0]) 3 24 Try.underlying27 hi hz0 hz1 hz2 rfl (by decide) _ _ _ rfl (ownsRow_keep HO.out (by (repeat (first | exact Below.refl _ _ | refine Below.setCell ?_ (by first | (simp; done) | (simp; omega) | omega) _ | refine belowN ?_ _ | refine Below.drew ?_ | refine Below.alloc ?_ (by first | (simp; done) | (simp; omega) | omega) _ | refine Below.trans ?_ (Below.mono (by assumption) (by first | (simp; done) | (simp; omega) | omega)))))) ⟨wr.heap.size, 0, none⟩ 1 1 (cCells 3 (pC (subP P zs)) k) rfl (by rw [HC.out]; rfl) (by rw [HC.out]; exact World.news_of_block (cs := #[.int .i64 (pX P m), .int .i64 (pY P m), .int .i64 (pT P m)]) (t := 67) (fr := (0, 0)) (heap_alloc_new _ _)) (cCells_one 3 _ _) (maxLen_of (by omega)) (by omega) (by first | (simp; done) | (simp; omega) | omega) ?_; intro v5 w5 hown5 hgrow5; obtain ⟨va, vn, vc, rfl⟩ := own_shape hown5; have hb5 : Below w.heap.size w w5 := ((hbw.alloc (by omega) (Obj.cells #[.int .i64 (pX P m), .int .i64 (pY P m), .int .i64 (pT P m)] 67)).drew).grown hgrow5 (by first | (simp; done) | (simp; omega) | omega) (fun j hj => by have := own_block_ge HO.out j hj; omega); have c0 := cell_below hb5 (H1 m hmP).1; have c1 := cell_below hb5 (H1 m hmP).2.1; have c2 := cell_below hb5 (H1 m hmP).2.2; have r5 := cell_below hb5 r0; have e5 := cell_below hb5 (H2 k hlt); rw [HME.out] at e5; have BX5 := ((HX.out.alloc (Obj.cells #[.int .i64 (pX P m), .int .i64 (pY P m), .int .i64 (pT P m)] 67)).drew).grown hgrow5 (fun j hj => own_block_ge HO.out j hj); have s5 := hb5.size; have l5 := BX5.q.lt; obtain ⟨q5, f5⟩ := BX5.q
        refine hK.out _ _ ?_ (fun hHeld => ?_)
        · (try dsimp only)
          (((try go_split_ands); (try dsimp only); (repeat' apply And.intro)) <;> (repeat (first | with_reducible assumption | ((with_reducible refine cnew0 ?_); simp; done) | ((with_reducible refine cnew1 ?_); simp; done) | (with_reducible refine akeep ?_) | (with_reducible refine dkeep ?_) | ((with_reducible refine skeep ?_ ?_); rotate_left; (first | ((try dsimp only); omega) | (simp; done) | (simp; omega))) | (with_reducible refine bkeep hb3 ?_))))
        clear hK K
        (try simp only [Act.put, List.setIfInBounds_toArray, List.set_cons_zero, List.set_cons_succ])
        refine wpAnyH_take (i := 14) (oi := ⟨_, _, _, _, _, _⟩) (v := ?_) rfl (by kernel_rfl) (by kernel_rfl) (by kernel_rfl) (fun _ _ _ h => h) (Or.inl ⟨by rfl, ?_⟩) (by assumption) ?_
        rotate_left
        · (intro w hSw; (try dsimp only at hSw); go_simp; (try with_reducible rfl))
        (try simp only [Act.put, List.setIfInBounds_toArray, List.set_cons_zero, List.set_cons_succ])
        refine wpAnyH_ready (rs := [15]) (by kernel_rfl) (by simp) ?_
        refine AllReadyH.cons (o := ⟨_, _, _, _, _, _⟩) rfl (fun K hK => ?_) AllReadyH.nil
        go_simp
        refine hK.out _ _ ?_ (fun hHeld => ?_)
        · (try dsimp only)
          (((try go_split_ands); (try dsimp only); (repeat' apply And.intro)) <;> (repeat (first | with_reducible assumption | ((with_reducible refine cnew0 ?_); simp; done) | ((with_reducible refine cnew1 ?_); simp; done) | (with_reducible refine akeep ?_) | (with_reducible refine dkeep ?_) | ((with_reducible refine skeep ?_ ?_); rotate_left; (first | ((try dsimp only); omega) | (simp; done) | (simp; omega))) | (with_reducible refine bkeep hb3 ?_))))
        clear hK K
        (try simp only [Act.put, List.setIfInBounds_toArray, List.set_cons_zero, List.set_cons_succ])
        refine wpAnyH_done (by kernel_rfl) ?_ _
      rotate_left
      focus
        go_simp
        refine hK.out _ _ ?_ (fun hHeld => ?_)
        · (try dsimp only)
          (((try go_split_ands); (try dsimp only); (repeat' apply And.intro)) <;> (repeat (first | with_reducible assumption | ((with_reducible refine cnew0 ?_); simp; done) | ((with_reducible refine cnew1 ?_); simp; done) | (with_reducible refine akeep ?_) | (with_reducible refine dkeep ?_) | ((with_reducible refine skeep ?_ ?_); rotate_left; (first | ((try dsimp only); omega) | (simp; done) | (simp; omega))) | (with_reducible refine bkeep hb3 ?_))))
        clear hK K
        (try simp only [Act.put, List.setIfInBounds_toArray, List.set_cons_zero, List.set_cons_succ])
        refine wpAnyH_ready (rs := [1]) (by kernel_rfl) (by simp) ?_
        refine AllReadyH.cons (o := ⟨_, _, _, _, _, _⟩) rfl (fun K hK => ?_) AllReadyH.nil
        go_simp
        refine hK.out _ _ ?_ (fun hHeld => ?_)
        · (try dsimp only)
          (((try go_split_ands); (try dsimp only); (repeat' apply And.intro)) <;> (repeat (first | with_reducible assumption | ((with_reducible refine cnew0 ?_); simp; done) | ((with_reducible refine cnew1 ?_); simp; done) | (with_reducible refine akeep ?_) | (with_reducible refine dkeep ?_) | ((with_reducible refine skeep ?_ ?_); rotate_left; (first | ((try dsimp only); omega) | (simp; done) | (simp; omega))) | (with_reducible refine bkeep hb3 ?_))))
        clear hK K
        (try simp only [Act.put, List.setIfInBounds_toArray, List.set_cons_zero, List.set_cons_succ])
        refine wpAnyH_ready (rs := [13]) (by kernel_rfl) (by simp) ?_
        refine AllReadyH.cons (o := ⟨_, _, _, _, _, _⟩) rfl (fun K hK => ?_) AllReadyH.nil
        refine step_append_own _ rfl _ _ 27 rfl (w.heap.size + 1 + 1) 67 i0 (.agg #[.int .i64 0, .int .i64 0, .int .i64 0]) 3 24 Try.underlying27 hi hz0 hz1 hz2 rfl (by decide) _ _ _ rfl (ownsRow_keep HO.out (by (repeat (first | exact Below.refl _ _ | refine Below.setCell ?_ (by first | (simp; done) | (simp; omega) | omega) _ | refine belowN ?_ _ | refine Below.drew ?_ | refine Below.alloc ?_ (by first | (simp; done) | (simp; omega) | omega) _ | refine Below.trans ?_ (Below.mono (by assumption) (by first | (simp; done) | (simp; omega) | omega)))))) ⟨wr.heap.size, 0, none⟩ 1 1 (cCells 3 (pC (subP P zs)) k) rfl (by rw [HC.out]; rfl) (by rw [HC.out]; exact World.news_of_block (cs := #[.int .i64 (pX P m), .int .i64 (pY P m), .int .i64 (pT P m)]) (t := 67) (fr := (0, 0)) (heap_alloc_new _ _)) (cCells_one 3 _ _) (maxLen_of (by omega)) (by omega) (by first | (simp; done) | (simp; omega) | omega) ?_; intro v5 w5 hown5 hgrow5; obtain ⟨va, vn, vc, rfl⟩ := own_shape hown5; have hb5 : Below w.heap.size w w5 := ((hbw.alloc (by omega) (Obj.cells #[.int .i64 (pX P m), .int .i64 (pY P m), .int .i64 (pT P m)] 67)).drew).grown hgrow5 (by first | (simp; done) | (simp; omega) | omega) (fun j hj => by have := own_block_ge HO.out j hj; omega); have c0 := cell_below hb5 (H1 m hmP).1; have c1 := cell_below hb5 (H1 m hmP).2.1; have c2 := cell_below hb5 (H1 m hmP).2.2; have r5 := cell_below hb5 r0; have e5 := cell_below hb5 (H2 k hlt); rw [HME.out] at e5; have BX5 := ((HX.out.alloc (Obj.cells #[.int .i64 (pX P m), .int .i64 (pY P m), .int .i64 (pT P m)] 67)).drew).grown hgrow5 (fun j hj => own_block_ge HO.out j hj); have s5 := hb5.size; have l5 := BX5.q.lt; obtain ⟨q5, f5⟩ := BX5.q
        refine hK.out _ _ ?_ (fun hHeld => ?_)
        · (try dsimp only)
          (((try go_split_ands); (try dsimp only); (repeat' apply And.intro)) <;> (repeat (first | with_reducible assumption | ((with_reducible refine cnew0 ?_); simp; done) | ((with_reducible refine cnew1 ?_); simp; done) | (with_reducible refine akeep ?_) | (with_reducible refine dkeep ?_) | ((with_reducible refine skeep ?_ ?_); rotate_left; (first | ((try dsimp only); omega) | (simp; done) | (simp; omega))) | (with_reducible refine bkeep hb3 ?_))))
        clear hK K
        (try simp only [Act.put, List.setIfInBounds_toArray, List.set_cons_zero, List.set_cons_succ])
        refine wpAnyH_take (i := 14) (oi := ⟨_, _, _, _, _, _⟩) (v := ?_) rfl (by kernel_rfl) (by kernel_rfl) (by kernel_rfl) (fun _ _ _ h => h) (Or.inl ⟨by rfl, ?_⟩) (by assumption) ?_
        rotate_left
        · (intro w hSw; (try dsimp only at hSw); go_simp; (try with_reducible rfl))
        (try simp only [Act.put, List.setIfInBounds_toArray, List.set_cons_zero, List.set_cons_succ])
        refine wpAnyH_ready (rs := [15]) (by kernel_rfl) (by simp) ?_
        refine AllReadyH.cons (o := ⟨_, _, _, _, _, _⟩) rfl (fun K hK => ?_) AllReadyH.nil
        go_simp
        refine hK.out _ _ ?_ (fun hHeld => ?_)
        · (try dsimp only)
          (((try go_split_ands); (try dsimp only); (repeat' apply And.intro)) <;> (repeat (first | with_reducible assumption | ((with_reducible refine cnew0 ?_); simp; done) | ((with_reducible refine cnew1 ?_); simp; done) | (with_reducible refine akeep ?_) | (with_reducible refine dkeep ?_) | ((with_reducible refine skeep ?_ ?_); rotate_left; (first | ((try dsimp only); omega) | (simp; done) | (simp; omega))) | (with_reducible refine bkeep hb3 ?_))))
        clear hK K
        (try simp only [Act.put, List.setIfInBounds_toArray, List.set_cons_zero, List.set_cons_succ])
        refine wpAnyH_done (by kernel_rfl) ?_ _
      rotate_left
      all_goals
        go_wp2_with fail
        go_roundw
        case rel => exact ⟨k + 1, _, by omega, by go_num, BX5.set _, ownsRow_setCell_below hown5 (by dsimp only; omega) _, by (repeat (first | exact Below.refl _ _ | refine Below.setCell ?_ (by first | (simp; done) | (simp; omega) | omega) _ | refine belowN ?_ _ | refine Below.drew ?_ | refine Below.alloc ?_ (by first | (simp; done) | (simp; omega) | omega) _ | refine Below.trans ?_ (Below.mono (by assumption) (by first | (simp; done) | (simp; omega) | omega))))⟩
        case measure => simp [intOf]; omega
    · obtain rfl : k = zs.length := by omega
      obtain ⟨va, vn, vc, rfl⟩ := own_shape HO.out
      go_wp2_with fail
      refine bodyPost_ret (v := .agg #[.slice va vn vc]) ?_ rfl ⟨⟨_, rfl, ?_⟩, by (repeat (first | exact Below.refl _ _ | refine Below.setCell ?_ (by first | (simp; done) | (simp; omega) | omega) _ | refine belowN ?_ _ | refine Below.drew ?_ | refine Below.alloc ?_ (by first | (simp; done) | (simp; omega) | omega) _ | refine Below.trans ?_ (Below.mono (by assumption) (by first | (simp; done) | (simp; omega) | omega))))⟩
      · simp [results, Try.results41, go_sem, x0, zx]
      · refine OwnC.mono (OwnC.of_row (ownsRow_setCell_below (ownsRow_congr (n' := (subP P zs).length) (xs' := cRow 3 (pC (subP P zs)) (subP P zs).length) HO.out (by rw [subP_len]) (by rw [subP_len])) (by dsimp only; omega) _)) (by omega) (by first | exact Nat.le_refl _ | (simp [World.setCell]; done) | (simp [World.setCell]; omega))
/-- The boxes at the start of both functions: the assembly and the result. -/
theorem boxes_s (w : World) (v : Value) (t1 t2 : TypeId) : At1 ((w.alloc (.cells #[v] t1)).alloc (.cells #[.slice none 0 0] t2)) w.heap.size v ∧ One ((w.alloc (.cells #[v] t1)).alloc (.cells #[.slice none 0 0] t2)) (w.heap.size + 1) (.slice none 0 0) :=
  ⟨⟨by simp [go_sem]⟩, by simp [go_sem], by simp [go_sem]⟩

set_option maxRecDepth 100000 in
set_option maxHeartbeats 4000000 in
set_option linter.unusedSimpArgs false in
theorem specSubAssembly_law (v1 : Value) (P1 : List Pl) (v2 : Value) (Z2 : List Int) (w : World) (h1 : Plcs w v1 P1) (_s1 : ∃ a k q, v1 = .slice (some a) k q) (_o1 : ∀ p ∈ P1, p.ok) (m1 : P1.length ≤ 1048576) (h2 : Ints w v2 Z2) (_s2 : ∃ a k q, v2 = .slice (some a) k q) (_o2 : ∀ z ∈ Z2, (Lit.int .i64 z).wf = true) (m2 : Z2.length ≤ 1048576) :
    Calls Try.prog 8 #[.agg #[v1], v2] w fun e w' => ArPost w (saR P1 Z2) (saC P1 Z2) e w' ∧ Below w.heap.size w w' := by
  have HV := Lib.hid h1
  have HZ := Lib.hid h2
  have HB := Lib.hid (boxes_s w v1 29 29)
  clear h1 h2
  go_enter Try.func8, Try.ntmps8
  go_wp2_with fail
  refine (l03Form_any _ _ P1 _ HB.out.1 (HV.out.below (by (repeat (first | exact Below.refl _ _ | refine Below.setCell ?_ (by first | (simp; done) | (simp; omega) | omega) _ | refine belowN ?_ _ | refine Below.drew ?_ | refine Below.alloc ?_ (by first | (simp; done) | (simp; omega) | omega) _ | refine Below.trans ?_ (Below.mono (by assumption) (by first | (simp; done) | (simp; omega) | omega))))))).mono ?_
  rintro e w1 ⟨rfl, hb1⟩
  have B1 : Below w.heap.size w w1 := by (repeat (first | exact Below.refl _ _ | refine Below.setCell ?_ (by first | (simp; done) | (simp; omega) | omega) _ | refine belowN ?_ _ | refine Below.drew ?_ | refine Below.alloc ?_ (by first | (simp; done) | (simp; omega) | omega) _ | refine Below.trans ?_ (Below.mono (by assumption) (by first | (simp; done) | (simp; omega) | omega))))
  have z1 := B1.size
  have A1 := Lib.hid (HB.out.1.below hb1)
  have R1 := Lib.hid (HB.out.2.below hb1)
  have l1 := R1.out.lt
  obtain ⟨x0, zx⟩ := R1.out
  clear hb1 HB
  cases hf : formB P1
  · have K := Lib.hid (sa_1 (zs := Z2) hf)
    go_wp2_with fail
    refine bodyPost_ret (v := .tuple #[.agg #[.slice none 0 0], .int .i64 1]) ?_ rfl ⟨ar_nil K.out.symm (saR_no K.out (by decide)), by (repeat (first | exact Below.refl _ _ | refine Below.setCell ?_ (by first | (simp; done) | (simp; omega) | omega) _ | refine belowN ?_ _ | refine Below.drew ?_ | refine Below.alloc ?_ (by first | (simp; done) | (simp; omega) | omega) _ | refine Below.trans ?_ (Below.mono (by assumption) (by first | (simp; done) | (simp; omega) | omega))))⟩
    simp [results, Try.results8, go_sem, x0, zx]
  have HF := Lib.hid hf
  have FF := Lib.hid (formB_iff.1 hf)
  clear hf
  have h500 := FF.out.len
  go_wp2_with fail
  refine (l06Part_any _ v1 v2 P1 Z2 _ A1.out (HV.out.below B1) m1 (HZ.out.below B1) m2).mono ?_
  rintro e w2 ⟨rfl, hb2⟩
  have B2 : Below w.heap.size w w2 := by (repeat (first | exact Below.refl _ _ | refine Below.setCell ?_ (by first | (simp; done) | (simp; omega) | omega) _ | refine belowN ?_ _ | refine Below.drew ?_ | refine Below.alloc ?_ (by first | (simp; done) | (simp; omega) | omega) _ | refine Below.trans ?_ (Below.mono (by assumption) (by first | (simp; done) | (simp; omega) | omega))))
  have z2 := B2.size
  have A2 := Lib.hid (A1.out.below hb2)
  have R2 := Lib.hid (R1.out.below hb2)
  have l2 := R2.out.lt
  clear hb2 x0 zx
  obtain ⟨x0, zx⟩ := R2.out
  cases hr : riseB Z2 0 ((P1.length : Int) - 1)
  · have K := Lib.hid (sa_2 HF.out hr)
    go_wp2_with fail
    refine bodyPost_ret (v := .tuple #[.agg #[.slice none 0 0], .int .i64 2]) ?_ rfl ⟨ar_nil K.out.symm (saR_no K.out (by decide)), by (repeat (first | exact Below.refl _ _ | refine Below.setCell ?_ (by first | (simp; done) | (simp; omega) | omega) _ | refine belowN ?_ _ | refine Below.drew ?_ | refine Below.alloc ?_ (by first | (simp; done) | (simp; omega) | omega) _ | refine Below.trans ?_ (Below.mono (by assumption) (by first | (simp; done) | (simp; omega) | omega))))⟩
    simp [results, Try.results8, go_sem, x0, zx]
  have K := Lib.hid (sa_0 HF.out hr)
  have RR := Lib.hid (riseB_iff.1 hr)
  clear hr
  go_wp2_with fail
  refine (l06Sub_any _ v1 v2 P1 Z2 _ A2.out (HV.out.below B2) h500 (HZ.out.below B2) RR.out).mono ?_
  rintro e w3 ⟨⟨v', rfl, ho⟩, hb3⟩
  have B3 : Below w.heap.size w w3 := by (repeat (first | exact Below.refl _ _ | refine Below.setCell ?_ (by first | (simp; done) | (simp; omega) | omega) _ | refine belowN ?_ _ | refine Below.drew ?_ | refine Below.alloc ?_ (by first | (simp; done) | (simp; omega) | omega) _ | refine Below.trans ?_ (Below.mono (by assumption) (by first | (simp; done) | (simp; omega) | omega))))
  have z3 := hb3.size
  have R3 := Lib.hid (R2.out.below hb3)
  have HO := Lib.hid ho
  obtain ⟨va, vn, vc, rfl⟩ := (OwnC.cl ho).shape
  clear hb3 x0 zx ho
  obtain ⟨x0, zx⟩ := R3.out
  have l3 := R3.out.lt
  go_wp2_with fail
  refine bodyPost_ret (v := .tuple #[.agg #[.slice va vn vc], .int .i64 0]) ?_ rfl ⟨⟨_, by rw [K.out], ?_⟩, by (repeat (first | exact Below.refl _ _ | refine Below.setCell ?_ (by first | (simp; done) | (simp; omega) | omega) _ | refine belowN ?_ _ | refine Below.drew ?_ | refine Below.alloc ?_ (by first | (simp; done) | (simp; omega) | omega) _ | refine Below.trans ?_ (Below.mono (by assumption) (by first | (simp; done) | (simp; omega) | omega))))⟩
  · simp [results, Try.results8, go_sem, x0, zx]
  · rw [saR_yes K.out]
    exact OwnC.mono (OwnC.keep HO.out (Within.set (w.heap.size + 1) (w.heap.size + 1 + 1) _ (a := ⟨w.heap.size + 1, 0, none⟩) (Nat.le_refl _) (Nat.lt_succ_self _) _) (.inr (by omega))) (by omega) (by first | exact Nat.le_refl _ | (simp [World.setCell]; done) | (simp [World.setCell]; omega))

set_option maxRecDepth 100000 in
set_option maxHeartbeats 4000000 in
set_option linter.unusedSimpArgs false in
theorem implSubAssembly_law (v1 : Value) (P1 : List Pl) (v2 : Value) (Z2 : List Int) (w : World) (h1 : Plcs w v1 P1) (_s1 : ∃ a k q, v1 = .slice (some a) k q) (_o1 : ∀ p ∈ P1, p.ok) (m1 : P1.length ≤ 1048576) (h2 : Ints w v2 Z2) (_s2 : ∃ a k q, v2 = .slice (some a) k q) (_o2 : ∀ z ∈ Z2, (Lit.int .i64 z).wf = true) (m2 : Z2.length ≤ 1048576) :
    Calls Try.prog 11 #[.agg #[v1], v2] w fun e w' => ArPost w (saR P1 Z2) (saC P1 Z2) e w' ∧ Below w.heap.size w w' := by
  have HV := Lib.hid h1
  have HZ := Lib.hid h2
  have HB := Lib.hid (boxes_s w v1 29 29)
  obtain ⟨ao, cap, rfl, hl, hm, hc⟩ := h1.open_
  obtain ⟨zo, zcap, rfl, hzl, hzm, hzc⟩ := h2.open_
  unfold maxLen at hm hzm
  have H0 := Lib.hid hc
  have HC0 := Lib.hid hzc
  obtain ⟨i0, hi, hz0, hz1, hz2⟩ := info_parts info_placed
  clear h1 h2 hc hzc
  obtain ⟨a0⟩ := HB.out.1
  go_enter Try.func11, Try.ntmps11
  go_wp2_with fail
  refine (hasForm_any _ P1 _ (HV.out.below (by (repeat (first | exact Below.refl _ _ | refine Below.setCell ?_ (by first | (simp; done) | (simp; omega) | omega) _ | refine belowN ?_ _ | refine Below.drew ?_ | refine Below.alloc ?_ (by first | (simp; done) | (simp; omega) | omega) _ | refine Below.trans ?_ (Below.mono (by assumption) (by first | (simp; done) | (simp; omega) | omega))))))).mono ?_
  rintro e w1 ⟨rfl, hb1⟩
  have B1 : Below w.heap.size w w1 := by (repeat (first | exact Below.refl _ _ | refine Below.setCell ?_ (by first | (simp; done) | (simp; omega) | omega) _ | refine belowN ?_ _ | refine Below.drew ?_ | refine Below.alloc ?_ (by first | (simp; done) | (simp; omega) | omega) _ | refine Below.trans ?_ (Below.mono (by assumption) (by first | (simp; done) | (simp; omega) | omega))))
  have z1 := B1.size
  have A1 := Lib.hid (HB.out.1.below hb1)
  have R1 := Lib.hid (HB.out.2.below hb1)
  have l1 := R1.out.lt
  obtain ⟨x0, zx⟩ := R1.out
  clear hb1 HB a0
  obtain ⟨a0⟩ := A1.out
  cases hf : formB P1
  · have K := Lib.hid (sa_1 (zs := Z2) hf)
    go_wp2_with fail
    refine bodyPost_ret (v := .tuple #[.agg #[.slice none 0 0], .int .i64 1]) ?_ rfl ⟨ar_nil K.out.symm (saR_no K.out (by decide)), by (repeat (first | exact Below.refl _ _ | refine Below.setCell ?_ (by first | (simp; done) | (simp; omega) | omega) _ | refine belowN ?_ _ | refine Below.drew ?_ | refine Below.alloc ?_ (by first | (simp; done) | (simp; omega) | omega) _ | refine Below.trans ?_ (Below.mono (by assumption) (by first | (simp; done) | (simp; omega) | omega))))⟩
    simp [results, Try.results11, go_sem, x0, zx]
  have HF := Lib.hid hf
  have FF := Lib.hid (formB_iff.1 hf)
  clear hf
  have h500 := FF.out.len
  go_wp2_with fail
  refine (hasPart_any _ _ P1 Z2 _ (HV.out.below B1) m1 (HZ.out.below B1) m2).mono ?_
  rintro e w2 ⟨rfl, hb2⟩
  have B2 : Below w.heap.size w w2 := by (repeat (first | exact Below.refl _ _ | refine Below.setCell ?_ (by first | (simp; done) | (simp; omega) | omega) _ | refine belowN ?_ _ | refine Below.drew ?_ | refine Below.alloc ?_ (by first | (simp; done) | (simp; omega) | omega) _ | refine Below.trans ?_ (Below.mono (by assumption) (by first | (simp; done) | (simp; omega) | omega))))
  have z2 := B2.size
  have A2 := Lib.hid (A1.out.below hb2)
  have R2 := Lib.hid (R1.out.below hb2)
  have l2 := R2.out.lt
  clear hb2 x0 zx a0
  obtain ⟨x0, zx⟩ := R2.out
  obtain ⟨a0⟩ := A2.out
  cases hr : riseB Z2 0 ((P1.length : Int) - 1)
  · have K := Lib.hid (sa_2 HF.out hr)
    go_wp2_with fail
    refine bodyPost_ret (v := .tuple #[.agg #[.slice none 0 0], .int .i64 2]) ?_ rfl ⟨ar_nil K.out.symm (saR_no K.out (by decide)), by (repeat (first | exact Below.refl _ _ | refine Below.setCell ?_ (by first | (simp; done) | (simp; omega) | omega) _ | refine belowN ?_ _ | refine Below.drew ?_ | refine Below.alloc ?_ (by first | (simp; done) | (simp; omega) | omega) _ | refine Below.trans ?_ (Below.mono (by assumption) (by first | (simp; done) | (simp; omega) | omega))))⟩
    simp [results, Try.results11, go_sem, x0, zx]
  have K := Lib.hid (sa_0 HF.out hr)
  have RR := Lib.hid (riseB_iff.1 hr)
  have hzn := rise_len RR.out
  clear hr x0 zx a0
  go_wp2_with fail
  go_loopw [6, 20] (fun v i wr => ∃ (k : Nat) (x : Value), k ≤ Z2.length ∧ i = .int .i64 k ∧ x = v ∧ wr.ownsRow (w.heap.size + 1 + 1) 67 3 x k (cRow 3 (pC (subP P1 Z2)) k) ∧ At1 wr w.heap.size (.slice ao P1.length cap) ∧ One wr (w.heap.size + 1) (.slice none 0 0) ∧ Below w.heap.size w wr) (fun _ i _ => Z2.length - (intOf i).toNat)
  case atStart => exact ⟨0, _, by omega, rfl, rfl, World.ownsRow_nil _ _ _ _, A2.out, R2.out, B2⟩
  case round =>
    clear B1 B2 z1 z2 l1 l2 A1 A2 R1 R2
    obtain ⟨k, x, hk, rfl, rfl, hown, hat1, hone, hbw⟩ := hrel
    have sw := hbw.size
    have lo1 := hone.lt
    have a0 := hat1.c0
    by_cases hlt : k < Z2.length
    · have hat := inB_iff.1 (RR.out k hlt).in_
      obtain ⟨m, hme⟩ : ∃ m : Nat, iAt Z2 k = (m : Int) := ⟨(iAt Z2 k).toNat, by omega⟩
      have hmP : m < P1.length := by omega
      have hmP2 : (m : Int) < P1.length := by omega
      obtain ⟨b, off, rfl, H1⟩ := H0.out (by omega)
      obtain ⟨bz, oz, rfl, H2⟩ := HC0.out (by omega)
      obtain ⟨c0, c1, c2⟩ := H1 m hmP
      have c0 := cell_below hbw c0
      have c1 := cell_below hbw c1
      have c2 := cell_below hbw c2
      have e0 := cell_below hbw (H2 k hlt)
      rw [hme] at e0
      have HC : Hid (cCells 3 (pC (subP P1 Z2)) k = [.int .i64 (pX P1 m), .int .i64 (pY P1 m), .int .i64 (pT P1 m)]) := Lib.hid (by
        show [Value.int .i64 (pC (subP P1 Z2) k 0), Value.int .i64 (pC (subP P1 Z2) k 1), Value.int .i64 (pC (subP P1 Z2) k 2)] = _
        rw [subP_pC hlt hme, subP_pC hlt hme, subP_pC hlt hme]; rfl)
      clear hat hme H1 H2
      have HA1 := Lib.hid hat1
      have HN1 := Lib.hid hone
      clear hat1 hone
      go_wp2_with (at_builtin; refine wpList_append_own _ rfl _ _ 27 rfl (w.heap.size + 1 + 1) 67 i0 (.agg #[.int .i64 0, .int .i64 0, .int .i64 0]) 3 24 Try.underlying27 hi hz0 hz1 hz2 rfl (by decide) _ _ _ rfl (hown.alloc _) ⟨wr.heap.size, 0, none⟩ 1 1 (cCells 3 (pC (subP P1 Z2)) k) rfl (by rw [HC.out]; rfl) (by rw [HC.out]; exact World.news_of_block (cs := #[.int .i64 (pX P1 m), .int .i64 (pY P1 m), .int .i64 (pT P1 m)]) (t := 67) (fr := (0, 0)) (heap_alloc_new wr _)) (cCells_one 3 _ _) (maxLen_of (by omega)) (by omega) (by simp; omega) ?_; intro v' w2 hown2 hgrow2 _)
      have hge := fun j hj => own_block_ge hown j hj
      have n0 : some w.heap.size ≠ x.ownBlock := fun a => by have := hge _ a.symm; omega
      have n1 : some (w.heap.size + 1) ≠ x.ownBlock := fun a => by have := hge _ a.symm; omega
      have hO1 := HN1.out.below (w1 := wr.alloc (.cells #[.int .i64 (pX P1 m), .int .i64 (pY P1 m), .int .i64 (pT P1 m)] 67)) (by (repeat (first | exact Below.refl _ _ | refine Below.setCell ?_ (by first | (simp; done) | (simp; omega) | omega) _ | refine belowN ?_ _ | refine Below.drew ?_ | refine Below.alloc ?_ (by first | (simp; done) | (simp; omega) | omega) _ | refine Below.trans ?_ (Below.mono (by assumption) (by first | (simp; done) | (simp; omega) | omega)))))
      have hA1 := HA1.out.below (w1 := wr.alloc (.cells #[.int .i64 (pX P1 m), .int .i64 (pY P1 m), .int .i64 (pT P1 m)] 67)) (by (repeat (first | exact Below.refl _ _ | refine Below.setCell ?_ (by first | (simp; done) | (simp; omega) | omega) _ | refine belowN ?_ _ | refine Below.drew ?_ | refine Below.alloc ?_ (by first | (simp; done) | (simp; omega) | omega) _ | refine Below.trans ?_ (Below.mono (by assumption) (by first | (simp; done) | (simp; omega) | omega)))))
      go_roundw
      case rel => exact ⟨k + 1, v', by omega, by go_num, rfl, hown2, ⟨gkeep hgrow2 hA1.c0 n0⟩, ⟨gkeep hgrow2 hO1.c0 n1, gfkeep hgrow2 hO1.z0 hO1.lt n1⟩, (hbw.alloc sw _).grown hgrow2 (by simp; omega) (fun j hj => by have := hge j hj; omega)⟩
      case measure => simp [intOf]; omega
    · obtain rfl : k = Z2.length := by omega
      have HO := Lib.hid hown
      obtain ⟨va, vn, vc, rfl⟩ := own_shape hown
      obtain ⟨x0, zx⟩ := hone
      clear hown hat1 a0
      go_wp2_with fail
      refine bodyPost_ret (v := .tuple #[.agg #[.slice va vn vc], .int .i64 0]) ?_ rfl ⟨⟨_, by rw [K.out], ?_⟩, by (repeat (first | exact Below.refl _ _ | refine Below.setCell ?_ (by first | (simp; done) | (simp; omega) | omega) _ | refine belowN ?_ _ | refine Below.drew ?_ | refine Below.alloc ?_ (by first | (simp; done) | (simp; omega) | omega) _ | refine Below.trans ?_ (Below.mono (by assumption) (by first | (simp; done) | (simp; omega) | omega))))⟩
      · simp [results, Try.results11, go_sem, x0, zx]
      · rw [saR_yes K.out]
        refine OwnC.mono (OwnC.of_row (ownsRow_setCell_below (ownsRow_congr (n' := (subP P1 Z2).length) (xs' := cRow 3 (pC (subP P1 Z2)) (subP P1 Z2).length) HO.out (by rw [subP_len]) (by rw [subP_len])) (by dsimp only; omega) _)) (by omega) (by first | exact Nat.le_refl _ | (simp [World.setCell]; done) | (simp [World.setCell]; omega))
end Go.Proofs.Ytnofbeeihdgmdaa
