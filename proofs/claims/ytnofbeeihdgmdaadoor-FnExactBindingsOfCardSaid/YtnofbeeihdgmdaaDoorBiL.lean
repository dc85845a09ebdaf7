/-
  BindingsOf, the model's and the program's. Conditions: each theorem's own; the program's reads the listed table of steps.
-/
import Derived.Test.YtnofbeeihdgmdaaDoorBiM
import Derived.Test.YtnofbeeihdgmdaaDoorStepA
namespace Go.Proofs.YtnofbeeihdgmdaaDoor
open Go.RowKit Go.Shelf
attribute [local go_sem] Oper.semAt_some

set_option maxRecDepth 100000 in
set_option maxHeartbeats 4000000 in
set_option linter.unusedSimpArgs false in
theorem specBindingsOf_law (vg1 vt1 : Value) (S1 : Set_) (v2 : Value) (P2 : List Pl) (w : World) (h1 : SetIn w vg1 vt1 S1) (_s1 : ∃ a k q, vg1 = .slice (some a) k q) (ok1 : S1.ok) (m1 : S1.small) (h2 : Plcs w v2 P2) (_s2 : ∃ a k q, v2 = .slice (some a) k q) (_o2 : ∀ p ∈ P2, p.ok) (_m2 : P2.length ≤ 1048576) :
    Calls Tryd.prog 33 #[.agg #[vg1, vt1], .agg #[v2]] w fun e w' => ZPost w (biZ S1 P2) (askC S1 P2) e w' ∧ Below w.heap.size w w' := by
  have HS := Lib.hid h1
  have HV := Lib.hid h2
  obtain ⟨ao, cap, rfl, hl, hm, hc⟩ := h2.open_
  unfold maxLen at hm
  have H0 := Lib.hid hc
  have HB := Lib.hid (boxes_sa w vg1 vt1 (.slice ao P2.length cap) 38 42)
  clear h1 h2 hc
  go_enter Tryd.func33, Tryd.ntmps33
  go_wp2_with fail
  refine (l06Asked_any _ _ vg1 vt1 (.slice ao P2.length cap) S1 P2 _ HB.out.1 HB.out.2 (HS.out.below (by (repeat (first | exact Below.refl _ _ | refine Below.setCell ?_ (by first | (simp; done) | (simp; omega) | omega) _ | refine belowN ?_ _ | refine Below.drew ?_ | refine Below.alloc ?_ (by first | (simp; done) | (simp; omega) | omega) _ | refine Below.trans ?_ (Below.mono (by assumption) (by first | (simp; done) | (simp; omega) | omega)))))) ok1 m1 (HV.out.below (by (repeat (first | exact Below.refl _ _ | refine Below.setCell ?_ (by first | (simp; done) | (simp; omega) | omega) _ | refine belowN ?_ _ | refine Below.drew ?_ | refine Below.alloc ?_ (by first | (simp; done) | (simp; omega) | omega) _ | refine Below.trans ?_ (Below.mono (by assumption) (by first | (simp; done) | (simp; omega) | omega))))))).mono ?_
  rintro e w1 ⟨rfl, hb1⟩
  have B1 : Below w.heap.size w w1 := by (repeat (first | exact Below.refl _ _ | refine Below.setCell ?_ (by first | (simp; done) | (simp; omega) | omega) _ | refine belowN ?_ _ | refine Below.drew ?_ | refine Below.alloc ?_ (by first | (simp; done) | (simp; omega) | omega) _ | refine Below.trans ?_ (Below.mono (by assumption) (by first | (simp; done) | (simp; omega) | omega))))
  have z1 := B1.size
  have G1 := Lib.hid (HB.out.1.below hb1)
  have A1 := Lib.hid (HB.out.2.below hb1)
  clear hb1 HB
  cases hv : vaB S1 P2
  · have K := Lib.hid (biZ_no hv)
    have K2 := Lib.hid (askC_no hv)
    rw [askC_no hv]
    go_wp2_with fail
    go_ret2
    exact ⟨ZPost.nil K.out K2.out.symm, B1⟩
  have HVa := Lib.hid (vaB_va hv)
  have h500 := (vaB_va hv).F.len
  have K := Lib.hid (biZ_yes hv)
  have K2 := Lib.hid (askC_yes hv)
  have e0 := A1.out.c0
  have l1 := A1.out.lt
  obtain ⟨i0, hi0, hz0, hz1, hz2⟩ := info_parts info_i64
  rw [askC_yes hv]
  clear hv
  go_wp2_with fail
  go_loopw [7, 8] (fun o i wr => ∃ (k : Nat) (x : Value), k ≤ P2.length ∧ i = .int .i64 k ∧ x = o ∧ Hid (wr.ownsRow w1.heap.size 2 1 x k ((biL S1 P2 k).map (Value.int .i64))) ∧ Below w1.heap.size w1 wr) (fun _ i _ => P2.length - (intOf i).toNat)
  case atStart => exact ⟨0, _, by omega, rfl, rfl, Lib.hid (World.ownsRow_lit _ _ _ (Nat.le_refl _) (by unfold maxLen; omega) rfl), by (repeat (first | exact Below.refl _ _ | refine Below.setCell ?_ (by first | (simp; done) | (simp; omega) | omega) _ | refine belowN ?_ _ | refine Below.drew ?_ | refine Below.alloc ?_ (by first | (simp; done) | (simp; omega) | omega) _ | refine Below.trans ?_ (Below.mono (by assumption) (by first | (simp; done) | (simp; omega) | omega))))⟩
  case round =>
    obtain ⟨k, x, hk, rfl, rfl, hown, hbw⟩ := hrel
    have sw := hbw.size
    have e1 := cell_below hbw e0
    by_cases hlt : k < P2.length
    · obtain ⟨b, off, rfl, H1⟩ := H0.out (by omega)
      obtain ⟨c0, c1, c2⟩ := H1 k hlt
      have c0 := cell_below B1 c0
      have c1 := cell_below B1 c1
      have c2 := cell_below B1 c2
      obtain ⟨hta, htal⟩ := HVa.out.tl hlt
      obtain ⟨hx, hy⟩ := HVa.out.pt hlt
      rw [hta] at c2
      have d0 := cell_below hbw c0
      have d1 := cell_below hbw c1
      have d2 := cell_below hbw c2
      have hia : (k : Int) < P2.length := by omega
      obtain ⟨z, hz⟩ : ∃ z, bndZ S1 P2 (pX P2 k) (pY P2 k) (tlN P2 k) 4 = z := ⟨_, rfl⟩
      have HZ := Lib.hid hz
      have HL : Hid ((biL S1 P2 (k + 1)).map (Value.int .i64) = (biL S1 P2 k).map (Value.int .i64) ++ [.int .i64 z]) := Lib.hid (by rw [biL_snoc, List.map_append, hz]; rfl)
      clear hta H1 hz
      go_wp2_with fail
      refine wp_region_held_drew (S := (fun w' => w'.cell? ⟨w.heap.size + 1, 0, none⟩ = some (.slice (some ⟨b, off, none⟩) P2.length cap) ∧ w'.cell? ⟨b, off + k * 3, none⟩ = some (.int .i64 (pX P2 k)) ∧ w'.cell? ⟨b, off + k * 3 + 1, none⟩ = some (.int .i64 (pY P2 k)) ∧ w'.cell? ⟨b, off + k * 3 + 2, none⟩ = some (.int .i64 (tlN P2 k : Int)))) (by kernel_rfl) ?_ (fun hHeld => ?_)
      · (try dsimp only)
        (((try go_split_ands); (try dsimp only); (repeat' apply And.intro)) <;> (repeat (first | with_reducible assumption | ((with_reducible refine cnew0 ?_); simp; done) | ((with_reducible refine cnew1 ?_); simp; done) | (with_reducible refine akeep ?_) | (with_reducible refine dkeep ?_) | ((with_reducible refine skeep ?_ ?_); rotate_left; (first | ((try dsimp only); omega) | (simp; done) | (simp; omega))) | (with_reducible refine bkeep hb3 ?_))))
      refine wpAnyH_take (i := 0) (oi := ⟨_, _, _, _, _, _⟩) (v := ?_) rfl (by kernel_rfl) (by kernel_rfl) (by kernel_rfl) (fun _ _ _ h => h) (Or.inl ⟨by rfl, ?_⟩) (by assumption) ?_
      rotate_left
      · (intro w hSw; (try dsimp only at hSw); go_simp; (try with_reducible rfl))
      (try simp only [Act.put, List.setIfInBounds_toArray, List.set_cons_zero, List.set_cons_succ])
      refine wpAnyH_take (i := 1) (oi := ⟨_, _, _, _, _, _⟩) (v := ?_) rfl (by kernel_rfl) (by kernel_rfl) (by kernel_rfl) (fun _ _ _ h => h) (Or.inl ⟨by rfl, ?_⟩) (by assumption) ?_
      rotate_left
      · (intro w hSw; (try dsimp only at hSw); go_simp; (try with_reducible rfl))
      (try simp only [Act.put, List.setIfInBounds_toArray, List.set_cons_zero, List.set_cons_succ])
      refine wpAnyH_take (i := 2) (oi := ⟨_, _, _, _, _, _⟩) (v := ?_) rfl (by kernel_rfl) (by kernel_rfl) (by kernel_rfl) (fun _ _ _ h => h) (Or.inl ⟨by rfl, ?_⟩) (by assumption) ?_
      rotate_left
      · (intro w hSw; (try dsimp only at hSw); go_simp; (try with_reducible rfl))
      (try simp only [Act.put, List.setIfInBounds_toArray, List.set_cons_zero, List.set_cons_succ])
      refine wpAnyH_take (i := 3) (oi := ⟨_, _, _, _, _, _⟩) (v := ?_) rfl (by kernel_rfl) (by kernel_rfl) (by kernel_rfl) (fun _ _ _ h => h) (Or.inl ⟨by rfl, ?_⟩) (by assumption) ?_
      rotate_left
      · (intro w hSw; (try dsimp only at hSw); go_simp; (try with_reducible rfl))
      (try simp only [Act.put, List.setIfInBounds_toArray, List.set_cons_zero, List.set_cons_succ])
      refine wpAnyH_take (i := 4) (oi := ⟨_, _, _, _, _, _⟩) (v := ?_) rfl (by kernel_rfl) (by kernel_rfl) (by kernel_rfl) (fun _ _ _ h => h) (Or.inl ⟨by rfl, ?_⟩) (by assumption) ?_
      rotate_left
      · (intro w hSw; (try dsimp only at hSw); go_simp; (try with_reducible rfl))
      (try simp only [Act.put, List.setIfInBounds_toArray, List.set_cons_zero, List.set_cons_succ])
      refine wpAnyH_take (i := 5) (oi := ⟨_, _, _, _, _, _⟩) (v := ?_) rfl (by kernel_rfl) (by kernel_rfl) (by kernel_rfl) (fun _ _ _ h => h) (Or.inl ⟨by rfl, ?_⟩) (by assumption) ?_
      rotate_left
      · (intro w hSw; (try dsimp only at hSw); go_simp; (try with_reducible rfl))
      (try simp only [Act.put, List.setIfInBounds_toArray, List.set_cons_zero, List.set_cons_succ])
      refine wpAnyH_take (i := 6) (oi := ⟨_, _, _, _, _, _⟩) (v := ?_) rfl (by kernel_rfl) (by kernel_rfl) (by kernel_rfl) (fun _ _ _ h => h) (Or.inl ⟨by rfl, ?_⟩) (by assumption) ?_
      rotate_left
      · (intro w hSw; (try dsimp only at hSw); go_simp; (try with_reducible rfl))
      (try simp only [Act.put, List.setIfInBounds_toArray, List.set_cons_zero, List.set_cons_succ])
      refine wpAnyH_take (i := 7) (oi := ⟨_, _, _, _, _, _⟩) (v := ?_) rfl (by kernel_rfl) (by kernel_rfl) (by kernel_rfl) (fun _ _ _ h => h) (Or.inl ⟨by rfl, ?_⟩) (by assumption) ?_
      rotate_left
      · (intro w hSw; (try dsimp only at hSw); go_simp; (try with_reducible rfl))
      (try simp only [Act.put, List.setIfInBounds_toArray, List.set_cons_zero, List.set_cons_succ])
      refine wpAnyH_take (i := 8) (oi := ⟨_, _, _, _, _, _⟩) (v := ?_) rfl (by kernel_rfl) (by kernel_rfl) (by kernel_rfl) (fun _ _ _ h => h) (Or.inl ⟨by rfl, ?_⟩) (by assumption) ?_
      rotate_left
      · (intro w hSw; (try dsimp only at hSw); go_simp; (try with_reducible rfl))
      (try simp only [Act.put, List.setIfInBounds_toArray, List.set_cons_zero, List.set_cons_succ])
      refine wpAnyH_take (i := 9) (oi := ⟨_, _, _, _, _, _⟩) (v := ?_) rfl (by kernel_rfl) (by kernel_rfl) (by kernel_rfl) (fun _ _ _ h => h) (Or.inl ⟨by rfl, ?_⟩) (by assumption) ?_
      rotate_left
      · (intro w hSw; (try dsimp only at hSw); go_simp; (try with_reducible rfl))
      (try simp only [Act.put, List.setIfInBounds_toArray, List.set_cons_zero, List.set_cons_succ])
      refine wpAnyH_take (i := 10) (oi := ⟨_, _, _, _, _, _⟩) (v := ?_) rfl (by kernel_rfl) (by kernel_rfl) (by kernel_rfl) (fun _ _ _ h => h) (Or.inl ⟨by rfl, ?_⟩) (by assumption) ?_
      rotate_left
      · (intro w hSw; (try dsimp only at hSw); go_simp; (try with_reducible rfl))
      (try simp only [Act.put, List.setIfInBounds_toArray, List.set_cons_zero, List.set_cons_succ])
      refine wpAnyH_take (i := 11) (oi := ⟨_, _, _, _, _, _⟩) (v := ?_) rfl (by kernel_rfl) (by kernel_rfl) (by kernel_rfl) (fun _ _ _ h => h) (Or.inl ⟨by rfl, ?_⟩) (by assumption) ?_
      rotate_left
      · (intro w hSw; (try dsimp only at hSw); go_simp; (try with_reducible rfl))
      (try simp only [Act.put, List.setIfInBounds_toArray, List.set_cons_zero, List.set_cons_succ])
      refine wpAnyH_take (i := 12) (oi := ⟨_, _, _, _, _, _⟩) (v := ?_) rfl (by kernel_rfl) (by kernel_rfl) (by kernel_rfl) (fun _ _ _ h => h) (Or.inl ⟨by rfl, ?_⟩) (by assumption) ?_
      rotate_left
      · (intro w hSw; (try dsimp only at hSw); go_simp; (try with_reducible rfl))
      (try simp only [Act.put, List.setIfInBounds_toArray, List.set_cons_zero, List.set_cons_succ])
      refine wpAnyH_ready (rs := [13]) (by kernel_rfl) (by simp) ?_
      refine AllReadyH.cons (o := ⟨_, _, _, _, _, _⟩) rfl (fun K hK => ?_) AllReadyH.nil
      go_simp
      (go_at_call 43; refine (l06Binding_any _ _ vg1 vt1 _ S1 P2 (pX P2 k) (pY P2 k) (tlN P2 k) _ (G1.out.below (show Below w1.heap.size w1 _ by (repeat (first | exact Below.refl _ _ | refine Below.setCell ?_ (by first | (simp; done) | (simp; omega) | omega) _ | refine belowN ?_ _ | refine Below.drew ?_ | refine Below.alloc ?_ (by first | (simp; done) | (simp; omega) | omega) _ | refine Below.trans ?_ (Below.mono (by assumption) (by first | (simp; done) | (simp; omega) | omega)))))) (A1.out.below (show Below w1.heap.size w1 _ by (repeat (first | exact Below.refl _ _ | refine Below.setCell ?_ (by first | (simp; done) | (simp; omega) | omega) _ | refine belowN ?_ _ | refine Below.drew ?_ | refine Below.alloc ?_ (by first | (simp; done) | (simp; omega) | omega) _ | refine Below.trans ?_ (Below.mono (by assumption) (by first | (simp; done) | (simp; omega) | omega)))))) (HS.out.below (B1.trans ((show Below w1.heap.size w1 _ by (repeat (first | exact Below.refl _ _ | refine Below.setCell ?_ (by first | (simp; done) | (simp; omega) | omega) _ | refine belowN ?_ _ | refine Below.drew ?_ | refine Below.alloc ?_ (by first | (simp; done) | (simp; omega) | omega) _ | refine Below.trans ?_ (Below.mono (by assumption) (by first | (simp; done) | (simp; omega) | omega))))).mono z1))) m1 (HV.out.below (B1.trans ((show Below w1.heap.size w1 _ by (repeat (first | exact Below.refl _ _ | refine Below.setCell ?_ (by first | (simp; done) | (simp; omega) | omega) _ | refine belowN ?_ _ | refine Below.drew ?_ | refine Below.alloc ?_ (by first | (simp; done) | (simp; omega) | omega) _ | refine Below.trans ?_ (Below.mono (by assumption) (by first | (simp; done) | (simp; omega) | omega))))).mono z1))) HVa.out hx hy htal).mono ?_; rintro e w4 ⟨rfl, hb3⟩; rw [HZ.out]; have s4 : wr.heap.size ≤ w4.heap.size := hb3.size)
      refine hK.out _ _ ?_ (fun hHeld => ?_)
      · (try dsimp only)
        (((try go_split_ands); (try dsimp only); (repeat' apply And.intro)) <;> (repeat (first | with_reducible assumption | ((with_reducible refine cnew0 ?_); simp; done) | ((with_reducible refine cnew1 ?_); simp; done) | (with_reducible refine akeep ?_) | (with_reducible refine dkeep ?_) | ((with_reducible refine skeep ?_ ?_); rotate_left; (first | ((try dsimp only); omega) | (simp; done) | (simp; omega))) | (with_reducible refine bkeep hb3 ?_))))
      clear hK K
      (try simp only [Act.put, List.setIfInBounds_toArray, List.set_cons_zero, List.set_cons_succ])
      refine wpAnyH_ready (rs := [14]) (by kernel_rfl) (by simp) ?_
      refine AllReadyH.cons (o := ⟨_, _, _, _, _, _⟩) rfl (fun K hK => ?_) AllReadyH.nil
      go_simp
      skip
      refine hK.out _ _ ?_ (fun hHeld => ?_)
      · (try dsimp only)
        (((try go_split_ands); (try dsimp only); (repeat' apply And.intro)) <;> (repeat (first | with_reducible assumption | ((with_reducible refine cnew0 ?_); simp; done) | ((with_reducible refine cnew1 ?_); simp; done) | (with_reducible refine akeep ?_) | (with_reducible refine dkeep ?_) | ((with_reducible refine skeep ?_ ?_); rotate_left; (first | ((try dsimp only); omega) | (simp; done) | (simp; omega))) | (with_reducible refine bkeep hb3 ?_))))
      clear hK K
      (try simp only [Act.put, List.setIfInBounds_toArray, List.set_cons_zero, List.set_cons_succ])
      refine wpAnyH_ready (rs := [15]) (by kernel_rfl) (by simp) ?_
      refine AllReadyH.cons (o := ⟨_, _, _, _, _, _⟩) rfl (fun K hK => ?_) AllReadyH.nil
      refine step_append_own _ rfl _ _ 58 rfl w1.heap.size 2 i0 (.int .i64 0) 1 8 Tryd.underlying58 hi0 hz0 hz1 hz2 rfl (by decide) _ _ _ rfl (ownsRow_keep hown.out (show Below wr.heap.size wr _ by (repeat (first | exact Below.refl _ _ | refine Below.setCell ?_ (by first | (simp; done) | (simp; omega) | omega) _ | refine belowN ?_ _ | refine Below.drew ?_ | refine Below.alloc ?_ (by first | (simp; done) | (simp; omega) | omega) _ | refine Below.trans ?_ (Below.mono (by assumption) (by first | (simp; done) | (simp; omega) | omega)))))) ⟨w4.heap.size, 0, none⟩ 1 1 [.int .i64 z] rfl rfl (World.news_of_block (cs := #[.int .i64 z]) (t := 2) (fr := (0, 0)) (heap_alloc_new _ _)) (by intro u hu; simp at hu; rcases hu with rfl; rfl) (maxLen_of (by omega)) (by omega) (by first | (simp; done) | (simp; omega) | omega) ?_; intro v5 w5 hown5 hgrow5; have HO5 := Lib.hid hown5; obtain ⟨va, vn, vc, rfl⟩ := own_shape hown5; have B5 : Below w1.heap.size w1 w5 := (show Below w1.heap.size w1 (w4.alloc (Obj.cells #[.int .i64 z] 2)) by (repeat (first | exact Below.refl _ _ | refine Below.setCell ?_ (by first | (simp; done) | (simp; omega) | omega) _ | refine belowN ?_ _ | refine Below.drew ?_ | refine Below.alloc ?_ (by first | (simp; done) | (simp; omega) | omega) _ | refine Below.trans ?_ (Below.mono (by assumption) (by first | (simp; done) | (simp; omega) | omega))))).grown hgrow5 (by simp; omega) (fun j hj => own_block_ge hown.out j hj); have f0 := cell_below B5 e0; have f1 := cell_below B5 c0; have f2 := cell_below B5 c1; have f3 := cell_below B5 c2; clear hown5 hgrow5
      refine hK.out _ _ ?_ (fun hHeld => ?_)
      · (try dsimp only)
        (((try go_split_ands); (try dsimp only); (repeat' apply And.intro)) <;> (repeat (first | with_reducible assumption | ((with_reducible refine cnew0 ?_); simp; done) | ((with_reducible refine cnew1 ?_); simp; done) | (with_reducible refine akeep ?_) | (with_reducible refine dkeep ?_) | ((with_reducible refine skeep ?_ ?_); rotate_left; (first | ((try dsimp only); omega) | (simp; done) | (simp; omega))) | (with_reducible refine bkeep hb3 ?_))))
      clear hK K
      (try simp only [Act.put, List.setIfInBounds_toArray, List.set_cons_zero, List.set_cons_succ])
      refine wpAnyH_take (i := 16) (oi := ⟨_, _, _, _, _, _⟩) (v := ?_) rfl (by kernel_rfl) (by kernel_rfl) (by kernel_rfl) (fun _ _ _ h => h) (Or.inl ⟨by rfl, ?_⟩) (by assumption) ?_
      rotate_left
      · (intro w hSw; (try dsimp only at hSw); go_simp; (try with_reducible rfl))
      (try simp only [Act.put, List.setIfInBounds_toArray, List.set_cons_zero, List.set_cons_succ])
      refine wpAnyH_done (by kernel_rfl) ?_ _
      go_wp2_with fail
      go_roundw
      case rel => exact ⟨k + 1, _, by omega, by go_num, rfl, Lib.hid (by rw [HL.out]; exact HO5.out), B5⟩
      case measure => simp [intOf]; omega
    · obtain rfl : k = P2.length := by omega
      go_wp2_with fail
      go_ret2
      exact ⟨ZPost.mk K2.out.symm (by rw [K.out]; exact (OwnZ.of_row (by rw [biL_len]; exact hown.out)).mono z1 (Nat.le_refl _)), B1.trans (hbw.mono z1)⟩

/-- The sums behind the bonds L. -/
def BiRow (w : World) (g n : Nat) (L : List Bd) : Prop := w.rowIs g 2 n (fun j => .int .i64 (bsum L j))
theorem BiRow.of_block {w w1 : World} {g n : Nat} {L : List Bd} (h : BiRow w g n L) (hb : w1.heap[g]? = w.heap[g]?) : BiRow w1 g n L := World.rowIs.of_block h hb
theorem BiRow.lt {w : World} {g n : Nat} {L : List Bd} (h : BiRow w g n L) : g < w.heap.size := World.rowIs.lt h
theorem BiRow.own {w : World} {lo g n : Nat} {S : Set_} {ps : List Pl} (h : BiRow w g n (bdsT S ps (tcs ps ps.length))) (hva : Va S ps) (hn : n = ps.length) (h2 : n ≤ 1048576) (h1 : lo ≤ g) : OwnZ w lo w.heap.size (.slice (some ⟨g, 0, none⟩) n n) (biL S ps ps.length) :=
  .inr ⟨g, h1, h.lt, .inr ⟨n, _, by rw [biL_len, hn], by rw [biL_len, hn]; exact Nat.le_refl _, maxLen_of h2, h, fun i hi => by rw [biL_len] at hi; rw [biL_at _ _ hi, bsum_all hva hi]⟩⟩
/-- .. behind the first of a bond's two tiles. -/
def bF (L : List Bd) (x : Bd) (j : Nat) : Int := if j = x.a then bsum L x.a + x.s else bsum L j
theorem bF_in {L : List Bd} {x : Bd} (h : ∀ j, 0 ≤ bsum L j ∧ bsum L j ≤ 8000) (hx : 0 ≤ x.s ∧ x.s ≤ 4) (j : Nat) : 0 ≤ bF L x j ∧ bF L x j ≤ 8004 := by
  have a := h j
  have b := h x.a
  unfold bF; split <;> omega
theorem bF_snoc (L : List Bd) (x : Bd) (j : Nat) : (if j = x.b then bF L x x.b + x.s else bF L x j) = bsum (L ++ [x]) j := by
  rw [bsum_snoc]
  unfold bF bX
  by_cases h1 : j = x.b
  · by_cases h2 : j = x.a
    · simp only [← h1, ← h2, if_true]; omega
    · simp only [← h1, if_neg h2, if_neg (Ne.symm h2), if_true]; omega
  · by_cases h2 : j = x.a
    · simp only [← h2, if_neg h1, if_neg (Ne.symm h1), if_true]; omega
    · simp only [if_neg h1, if_neg (Ne.symm h1), if_neg h2, if_neg (Ne.symm h2)]; omega

set_option maxRecDepth 100000 in
set_option maxHeartbeats 8000000 in
set_option linter.unusedSimpArgs false in
theorem implBindingsOf_law (vg1 vt1 : Value) (S1 : Set_) (v2 : Value) (P2 : List Pl) (w : World) (h1 : SetIn w vg1 vt1 S1) (s1 : ∃ a k q, vg1 = .slice (some a) k q) (ok1 : S1.ok) (m1 : S1.small) (h2 : Plcs w v2 P2) (s2 : ∃ a k q, v2 = .slice (some a) k q) (o2 : ∀ p ∈ P2, p.ok) (m2 : P2.length ≤ 1048576) (hT : Steps w) :
    Calls Tryd.prog 34 #[.agg #[vg1, vt1], .agg #[v2]] w fun e w' => ZPost w (biZ S1 P2) (askC S1 P2) e w' ∧ Below w.heap.size w w' := by
  have HS := Lib.hid h1
  have HV := Lib.hid h2
  have HT := Lib.hid hT
  have HB := Lib.hid (boxes_sa w vg1 vt1 v2 38 42)
  obtain ⟨po, pcap, rfl, hpl, hpm, -⟩ := h2.open_
  unfold maxLen at hpm
  clear h1 h2 hT
  have hV := implValidAssembly_law vg1 vt1 S1 _ P2 ((w.alloc (.cells #[vg1, vt1] 38)).alloc (.cells #[.slice po P2.length pcap] 42)) (HS.out.below (by (repeat (first | exact Below.refl _ _ | refine Below.setCell ?_ (by first | (simp; done) | (simp; omega) | omega) _ | refine belowN ?_ _ | refine Below.drew ?_ | refine Below.alloc ?_ (by first | (simp; done) | (simp; omega) | omega) _ | refine Below.trans ?_ (Below.mono (by assumption) (by first | (simp; done) | (simp; omega) | omega)))))) s1 ok1 m1 (HV.out.below (by (repeat (first | exact Below.refl _ _ | refine Below.setCell ?_ (by first | (simp; done) | (simp; omega) | omega) _ | refine belowN ?_ _ | refine Below.drew ?_ | refine Below.alloc ?_ (by first | (simp; done) | (simp; omega) | omega) _ | refine Below.trans ?_ (Below.mono (by assumption) (by first | (simp; done) | (simp; omega) | omega)))))) s2 o2 m2
  obtain ⟨b0, b1⟩ := HB.out.1
  obtain ⟨b2⟩ := HB.out.2
  rw [← callsIn_wide (n := 9)]
  refine callsIn_of_wp_marks Tryd.func34 rfl trivial ?_ rfl
  simp only [Tryd.ntmps34, List.size_toArray, List.length_cons, List.length_nil, Nat.reduceAdd, Nat.reduceSub, Array.replicate_succ, Array.replicate_zero, List.push_toArray, List.append_toArray, List.nil_append, List.cons_append]
  gi_wp2_with fail
  refine ⟨trivial, (callsIn_wide.2 hV).mono ?_⟩
  rintro e w1 ⟨rfl, hb1⟩
  have B1 : Below w.heap.size w w1 := by (repeat (first | exact Below.refl _ _ | refine Below.setCell ?_ (by first | (simp; done) | (simp; omega) | omega) _ | refine belowN ?_ _ | refine Below.drew ?_ | refine Below.alloc ?_ (by first | (simp; done) | (simp; omega) | omega) _ | refine Below.trans ?_ (Below.mono (by assumption) (by first | (simp; done) | (simp; omega) | omega))))
  have z1 := B1.size
  have G1 := Lib.hid (HB.out.1.below hb1)
  have A1 := Lib.hid (HB.out.2.below hb1)
  have l1 := A1.out.lt
  clear hb1 HB b0 b1 b2 hV
  cases hv : vaB S1 P2
  · have K := Lib.hid (biZ_no hv)
    have K2 := Lib.hid (askC_no hv)
    gi_wp2
    refine ⟨_, results_tmp2 rfl _ _ _, ?_, B1⟩
    exact ZPost.nil K.out K2.out.symm
  have HVa := Lib.hid (vaB_va hv)
  have K := Lib.hid (biZ_yes hv)
  have K2 := Lib.hid (askC_yes hv)
  have h500 := (vaB_va hv).F.len
  have HPre := Lib.hid (fun (L : List Bd) (h : L <+: bdsT S1 P2 (tcs P2 P2.length)) => bsum_pre HVa.out h)
  have HMem := Lib.hid (fun (x : Bd) (h : x ∈ bdsT S1 P2 (tcs P2 P2.length)) => bdsT_mem HVa.out h)
  clear hv
  have hmk := mk_i64 P2.length (by omega)
  obtain ⟨a9⟩ := A1.out
  obtain ⟨g0, g1⟩ := G1.out.below (w1 := ((w1.alloc (.cells (zeroI P2.length) 2)).alloc (.cells #[.slice (some ⟨w1.heap.size, 0, none⟩) P2.length P2.length] 58))) (by (repeat (first | exact Below.refl _ _ | refine Below.setCell ?_ (by first | (simp; done) | (simp; omega) | omega) _ | refine belowN ?_ _ | refine Below.drew ?_ | refine Below.alloc ?_ (by first | (simp; done) | (simp; omega) | omega) _ | refine Below.trans ?_ (Below.mono (by assumption) (by first | (simp; done) | (simp; omega) | omega)))))
  obtain ⟨a0⟩ := A1.out.below (w1 := ((w1.alloc (.cells (zeroI P2.length) 2)).alloc (.cells #[.slice (some ⟨w1.heap.size, 0, none⟩) P2.length P2.length] 58))) (by (repeat (first | exact Below.refl _ _ | refine Below.setCell ?_ (by first | (simp; done) | (simp; omega) | omega) _ | refine belowN ?_ _ | refine Below.drew ?_ | refine Below.alloc ?_ (by first | (simp; done) | (simp; omega) | omega) _ | refine Below.trans ?_ (Below.mono (by assumption) (by first | (simp; done) | (simp; omega) | omega)))))
  gi_wp2_with fail
  refine ⟨trivial, (callsIn_wide.2 (bonds_any _ _ _ _)).mono ?_⟩
  rintro e w2 ⟨rfl, rfl⟩
  obtain ⟨W, hW⟩ : ∃ W, W = ((((w1.alloc (.cells (zeroI P2.length) 2)).alloc (.cells #[.slice (some ⟨w1.heap.size, 0, none⟩) P2.length P2.length] 58)).alloc (.cells #[vg1, vt1] 38)).alloc (.cells #[.slice po P2.length pcap] 42)) := ⟨_, rfl⟩
  have zW : W.heap.size = w1.heap.size + 4 := by rw [hW]; simp
  have bW : Below w1.heap.size w1 W := by rw [hW]; exact ((((Below.refl _ w1).alloc (Nat.le_refl _) _).alloc (by simp) _).alloc (by simp; omega) _).alloc (by simp; omega) _
  have BW : Below w.heap.size w W := B1.trans (bW.mono z1)
  have RW : BiRow W w1.heap.size P2.length [] := by
    rw [hW]
    exact ((World.rowIs_made w1 (.int .i64 0) P2.length 2).of_block (((((Below.refl _ _).alloc (Nat.le_refl _) _).alloc (by simp) _).alloc (by first | (simp; done) | (simp; omega)) _).block _ (by simp))).congr fun i _ => rfl
  have SW : At1 W (w1.heap.size + 1) (.slice (some ⟨w1.heap.size, 0, none⟩) P2.length P2.length) := by rw [hW]; exact ⟨by simp [go_sem]⟩
  have GB : At W (w1.heap.size + 1 + 1) vg1 vt1 := by rw [hW]; exact ⟨by simp [go_sem], by simp [go_sem]⟩
  have AB : At1 W (w1.heap.size + 1 + 1 + 1) (.slice po P2.length pcap) := by rw [hW]; exact ⟨by simp [go_sem]⟩
  clear g0 g1 a0 a9 hmk
  gi_wp2
  rw [← hW]
  clear hW bW
  generalize hrb : w1.heap.size = rb at *
  refine wpIn_give_box (xs := bdsT S1 P2 (tcs P2 P2.length)) (N := fun k => k < W.heap.size ∧ k ≠ rb) (encs := encB) rfl (enters_of Tryd.func87 (by kernel_rfl) rfl)
    (bonds_gives w (rb + 1 + 1) (rb + 1 + 1 + 1) vg1 vt1 (.slice po P2.length pcap) S1 P2 _ W BW (fun k h => ⟨by omega, by omega⟩) ⟨by omega, by omega⟩ ⟨by omega, by omega⟩ (fun k h => h.1) GB AB HS.out m1 HV.out HVa.out HT.out) (Below.refl _ _) (fun k h => h.1) (fun _ => rfl)
    (fun pre C W' => BiRow W' rb P2.length pre ∧ At1 W' (rb + 1) (.slice (some ⟨rb, 0, none⟩) P2.length P2.length) ∧ Below w.heap.size w W') ?abide (fun _ => False) (fun k h => h.elim) ⟨RW, SW, BW⟩
    (fun x Bx W' => Thr W' Bx (.int .i64 (x.a : Int)) (.int .i64 (x.b : Int)) (.int .i64 x.s) ∧ rb ≠ Bx ∧ rb + 1 ≠ Bx) (fun x Bx s X Y row h hg hr => ⟨thr_own Bx _ _ _ () X Y row h.1 hg hr, h.2⟩) ?actF ?assign ?body ?done
  case abide =>
    rintro pre C A B ⟨h4, h5, h3⟩ hs
    exact ⟨h4.of_block (hs.block _ h4.lt (.inl (by omega))), h5.of_block (hs.block _ h5.lt (.inl (by omega))), h3.trans (hs.below (by omega) h3.size)⟩
  case assign =>
    rintro l2 pre C x W' K hi hK
    dsimp only [encB]
    gi_wp2
    have hsb := hi.2.1
    have hT3 : Thr (W'.alloc (.cells #[.int .i64 (x.a : Int), .int .i64 (x.b : Int), .int .i64 x.s] 86)) W'.heap.size (.int .i64 (x.a : Int)) (.int .i64 (x.b : Int)) (.int .i64 x.s) := ⟨by simp [go_sem], by simp [go_sem], by simp [go_sem]⟩
    have hb3 : Below W'.heap.size W' (W'.alloc (.cells #[.int .i64 (x.a : Int), .int .i64 (x.b : Int), .int .i64 x.s] 86)) := (Below.refl _ W').alloc (Nat.le_refl _) _
    generalize W'.alloc (.cells #[.int .i64 (x.a : Int), .int .i64 (x.b : Int), .int .i64 x.s] 86) = W3 at *
    revert hT3 hb3
    have hlt := hsb.lt
    generalize hz : W'.heap.size = Bx
    intro hT3 hb3
    exact hK Bx _ (by rw [hz]; exact hb3) ⟨hT3, by omega, by omega⟩
  case body =>
    rintro l2 pre C x Bx W' hzW hC ⟨hrow, hsl, hb⟩ ⟨hX, hne, hne2⟩ hpre
    have hin := HPre.out _ ((List.prefix_append _ _).trans hpre)
    obtain ⟨hxa, hxb, hxs⟩ := HMem.out x (hpre.subset (by simp))
    have hxa2 : (x.a : Int) < P2.length := by omega
    have hxb2 : (x.b : Int) < P2.length := by omega
    have hwr1 : IntKind.i64.wrap (bsum pre x.a + x.s) = bsum pre x.a + x.s := IntWalk.i64_in _ (by have := hin x.a; omega)
    have hwr2 : IntKind.i64.wrap (bF pre x x.b + x.s) = bF pre x x.b + x.s := IntWalk.i64_in _ (by have := bF_in hin hxs x.b; omega)
    have d0 := World.rowIs.cell hrow hxa
    have d1 := World.rowIs.frozen hrow x.a
    have s0 := hsl.c0
    obtain ⟨x0, x1, x2⟩ := id hX
    have lX := hX.lt
    have lr := hrow.lt
    have ls := hsl.lt
    have sB := hb.size
    have HR := Lib.hid hrow
    have HSL := Lib.hid hsl
    have HX := Lib.hid hX
    have HB := Lib.hid hb
    have HIN := Lib.hid hin
    clear hrow hsl hX hb hin
    gi_wp2
    refine wpIn_region_round (S := (fun w' => w'.cell? ⟨rb + 1, 0, none⟩ = some (.slice (some ⟨rb, 0, none⟩) P2.length P2.length) ∧ w'.cell? ⟨Bx, 0, none⟩ = some (.int .i64 (x.a : Int)) ∧ w'.cell? ⟨Bx, 2, none⟩ = some (.int .i64 x.s))) (by kernel_rfl) (by kernel_rfl) ?_ (fun hHeld => ?_)
    · (try dsimp only)
      (((try go_split_ands); (try dsimp only); (repeat' apply And.intro)) <;> (repeat (first | with_reducible assumption | ((with_reducible refine cnew0 ?_); simp; done) | ((with_reducible refine cnew1 ?_); simp; done) | (with_reducible refine akeep ?_) | (with_reducible refine dkeep ?_) | ((with_reducible refine skeep ?_ ?_); rotate_left; (first | ((try dsimp only); omega) | (simp; done) | (simp; omega))) | (with_reducible refine bkeep hb3 ?_))))
    refine wpAnyH_take (i := 0) (oi := ⟨_, _, _, _, _, _⟩) (v := ?_) rfl (by kernel_rfl) (by kernel_rfl) (by kernel_rfl) (fun _ _ _ h => h) (Or.inl ⟨by rfl, ?_⟩) (by assumption) ?_
    rotate_left
    · (intro w hSw; (try dsimp only at hSw); go_simp; (try with_reducible rfl))
    (try simp only [Act.put, List.setIfInBounds_toArray, List.set_cons_zero, List.set_cons_succ])
    refine wpAnyH_take (i := 1) (oi := ⟨_, _, _, _, _, _⟩) (v := ?_) rfl (by kernel_rfl) (by kernel_rfl) (by kernel_rfl) (fun _ _ _ h => h) (Or.inl ⟨by rfl, ?_⟩) (by assumption) ?_
    rotate_left
    · (intro w hSw; (try dsimp only at hSw); go_simp; (try with_reducible rfl))
    (try simp only [Act.put, List.setIfInBounds_toArray, List.set_cons_zero, List.set_cons_succ])
    refine wpAnyH_take (i := 2) (oi := ⟨_, _, _, _, _, _⟩) (v := ?_) rfl (by kernel_rfl) (by kernel_rfl) (by kernel_rfl) (fun _ _ _ h => h) (Or.inl ⟨by rfl, ?_⟩) (by assumption) ?_
    rotate_left
    · (intro w hSw; (try dsimp only at hSw); go_simp; (try with_reducible rfl))
    (try simp only [Act.put, List.setIfInBounds_toArray, List.set_cons_zero, List.set_cons_succ])
    refine wpAnyH_take (i := 3) (oi := ⟨_, _, _, _, _, _⟩) (v := ?_) rfl (by kernel_rfl) (by kernel_rfl) (by kernel_rfl) (fun _ _ _ h => h) (Or.inl ⟨by rfl, ?_⟩) (by assumption) ?_
    rotate_left
    · (intro w hSw; (try dsimp only at hSw); go_simp; (try with_reducible rfl))
    (try simp only [Act.put, List.setIfInBounds_toArray, List.set_cons_zero, List.set_cons_succ])
    refine wpAnyH_take (i := 5) (oi := ⟨_, _, _, _, _, _⟩) (v := ?_) rfl (by kernel_rfl) (by kernel_rfl) (by kernel_rfl) (fun _ _ _ h => h) (Or.inl ⟨by rfl, ?_⟩) (by assumption) ?_
    rotate_left
    · (intro w hSw; (try dsimp only at hSw); go_simp; (try with_reducible rfl))
    (try simp only [Act.put, List.setIfInBounds_toArray, List.set_cons_zero, List.set_cons_succ])
    refine wpAnyH_take (i := 6) (oi := ⟨_, _, _, _, _, _⟩) (v := ?_) rfl (by kernel_rfl) (by kernel_rfl) (by kernel_rfl) (fun _ _ _ h => h) (Or.inl ⟨by rfl, ?_⟩) (by assumption) ?_
    rotate_left
    · (intro w hSw; (try dsimp only at hSw); go_simp; (try with_reducible rfl))
    (try simp only [Act.put, List.setIfInBounds_toArray, List.set_cons_zero, List.set_cons_succ])
    refine wpAnyH_ready (rs := [4]) (by kernel_rfl) (by simp) ?_
    refine AllReadyH.cons (o := ⟨_, _, _, _, _, _⟩) rfl (fun K hK => ?_) AllReadyH.nil
    go_simp
    refine hK.out _ _ ?_ (fun hHeld => ?_)
    · (try dsimp only)
      (((try go_split_ands); (try dsimp only); (repeat' apply And.intro)) <;> (repeat (first | with_reducible assumption | ((with_reducible refine cnew0 ?_); simp; done) | ((with_reducible refine cnew1 ?_); simp; done) | (with_reducible refine akeep ?_) | (with_reducible refine dkeep ?_) | ((with_reducible refine skeep ?_ ?_); rotate_left; (first | ((try dsimp only); omega) | (simp; done) | (simp; omega))) | (with_reducible refine bkeep hb3 ?_))))
    clear hK K
    (try simp only [Act.put, List.setIfInBounds_toArray, List.set_cons_zero, List.set_cons_succ])
    refine wpAnyH_take (i := 7) (oi := ⟨_, _, _, _, _, _⟩) (v := ?_) rfl (by kernel_rfl) (by kernel_rfl) (by kernel_rfl) (fun _ _ _ h => h) (Or.inl ⟨by rfl, ?_⟩) (by assumption) ?_
    rotate_left
    · (intro w hSw; (try dsimp only at hSw); go_simp; (try with_reducible rfl))
    (try simp only [Act.put, List.setIfInBounds_toArray, List.set_cons_zero, List.set_cons_succ])
    refine wpAnyH_take (i := 8) (oi := ⟨_, _, _, _, _, _⟩) (v := ?_) rfl (by kernel_rfl) (by kernel_rfl) (by kernel_rfl) (fun _ _ _ h => h) (Or.inl ⟨by rfl, ?_⟩) (by assumption) ?_
    rotate_left
    · (intro w hSw; (try dsimp only at hSw); go_simp; (try with_reducible rfl))
    (try simp only [Act.put, List.setIfInBounds_toArray, List.set_cons_zero, List.set_cons_succ])
    refine wpAnyH_ready (rs := [9]) (by kernel_rfl) (by simp) ?_
    refine AllReadyH.cons (o := ⟨_, _, _, _, _, _⟩) rfl (fun K hK => ?_) AllReadyH.nil
    go_simp
    refine hK.out _ _ ?_ (fun hHeld => ?_)
    · (try dsimp only)
      (((try go_split_ands); (try dsimp only); (repeat' apply And.intro)) <;> (repeat (first | with_reducible assumption | ((with_reducible refine cnew0 ?_); simp; done) | ((with_reducible refine cnew1 ?_); simp; done) | (with_reducible refine akeep ?_) | (with_reducible refine dkeep ?_) | ((with_reducible refine skeep ?_ ?_); rotate_left; (first | ((try dsimp only); omega) | (simp; done) | (simp; omega))) | (with_reducible refine bkeep hb3 ?_))))
    clear hK K
    (try simp only [Act.put, List.setIfInBounds_toArray, List.set_cons_zero, List.set_cons_succ])
    refine wpAnyH_done (by kernel_rfl) ?_ _
    dsimp only [onlyN]
    have BD : Below (W'.setCell ⟨rb, x.a, none⟩ (.int .i64 (bsum pre x.a + x.s))).heap.size (W'.setCell ⟨rb, x.a, none⟩ (.int .i64 (bsum pre x.a + x.s))) (W'.setCell ⟨rb, x.a, none⟩ (.int .i64 (bsum pre x.a + x.s))).drew := by (repeat (first | exact Below.refl _ _ | refine Below.setCell ?_ (by first | (simp; done) | (simp; omega) | omega) _ | refine belowN ?_ _ | refine Below.drew ?_ | refine Below.alloc ?_ (by first | (simp; done) | (simp; omega) | omega) _ | refine Below.trans ?_ (Below.mono (by assumption) (by first | (simp; done) | (simp; omega) | omega))))
    have R6 : (W'.setCell ⟨rb, x.a, none⟩ (.int .i64 (bsum pre x.a + x.s))).drew.rowIs rb 2 P2.length (fun j => .int .i64 (bF pre x j)) := by
      refine ((World.rowIs.set HR.out x.a _).congr fun j _ => ?_).of_block rfl
      unfold bF
      by_cases hj : j = x.a
      · rw [if_pos hj, if_pos hj]
      · rw [if_neg hj, if_neg hj]
    have L6 := Lib.hid (show At1 (W'.setCell ⟨rb, x.a, none⟩ (.int .i64 (bsum pre x.a + x.s))).drew (rb + 1) (.slice (some ⟨rb, 0, none⟩) P2.length P2.length) from HSL.out.of_block ((show _ = _ from rfl).trans (Below.heap_setCell W' ⟨rb, x.a, none⟩ _ _ (by dsimp only; omega))))
    have X6 : Thr (W'.setCell ⟨rb, x.a, none⟩ (.int .i64 (bsum pre x.a + x.s))).drew Bx (.int .i64 (x.a : Int)) (.int .i64 (x.b : Int)) (.int .i64 x.s) := HX.out.of_block ((show _ = _ from rfl).trans (Below.heap_setCell W' ⟨rb, x.a, none⟩ _ _ (by dsimp only; omega)))
    have b6 : Below w.heap.size w (W'.setCell ⟨rb, x.a, none⟩ (.int .i64 (bsum pre x.a + x.s))).drew := (HB.out.setCell (p := ⟨rb, x.a, none⟩) (by dsimp only; omega) _).trans (BD.mono (by simpa [World.setCell] using sB))
    have sp6 : Spare (fun k => k < W.heap.size ∧ k ≠ rb) W.heap.size C W' (W'.setCell ⟨rb, x.a, none⟩ (.int .i64 (bsum pre x.a + x.s))).drew := (Spare.set (by simp) (.inl (by dsimp only; omega)) _).trans (Spare.of BD)
    generalize (W'.setCell ⟨rb, x.a, none⟩ (.int .i64 (bsum pre x.a + x.s))).drew = W6 at *
    clear x0 x1 x2 s0 d0 d1 hHeld
    have d0 := World.rowIs.cell R6 hxb
    have d1 := World.rowIs.frozen R6 x.b
    have s0 := L6.out.c0
    obtain ⟨x0, x1, x2⟩ := id X6
    have lX := X6.lt
    have ls := L6.out.lt
    have HR6 := Lib.hid R6
    have HSP := Lib.hid sp6
    clear R6 X6 BD sp6
    gi_wp2
    refine wpIn_region_round (S := (fun w' => w'.cell? ⟨rb + 1, 0, none⟩ = some (.slice (some ⟨rb, 0, none⟩) P2.length P2.length) ∧ w'.cell? ⟨Bx, 1, none⟩ = some (.int .i64 (x.b : Int)) ∧ w'.cell? ⟨Bx, 2, none⟩ = some (.int .i64 x.s))) (by kernel_rfl) (by kernel_rfl) ?_ (fun hHeld => ?_)
    · (try dsimp only)
      (((try go_split_ands); (try dsimp only); (repeat' apply And.intro)) <;> (repeat (first | with_reducible assumption | ((with_reducible refine cnew0 ?_); simp; done) | ((with_reducible refine cnew1 ?_); simp; done) | (with_reducible refine akeep ?_) | (with_reducible refine dkeep ?_) | ((with_reducible refine skeep ?_ ?_); rotate_left; (first | ((try dsimp only); omega) | (simp; done) | (simp; omega))) | (with_reducible refine bkeep hb3 ?_))))
    refine wpAnyH_take (i := 0) (oi := ⟨_, _, _, _, _, _⟩) (v := ?_) rfl (by kernel_rfl) (by kernel_rfl) (by kernel_rfl) (fun _ _ _ h => h) (Or.inl ⟨by rfl, ?_⟩) (by assumption) ?_
    rotate_left
    · (intro w hSw; (try dsimp only at hSw); go_simp; (try with_reducible rfl))
    (try simp only [Act.put, List.setIfInBounds_toArray, List.set_cons_zero, List.set_cons_succ])
    refine wpAnyH_take (i := 1) (oi := ⟨_, _, _, _, _, _⟩) (v := ?_) rfl (by kernel_rfl) (by kernel_rfl) (by kernel_rfl) (fun _ _ _ h => h) (Or.inl ⟨by rfl, ?_⟩) (by assumption) ?_
    rotate_left
    · (intro w hSw; (try dsimp only at hSw); go_simp; (try with_reducible rfl))
    (try simp only [Act.put, List.setIfInBounds_toArray, List.set_cons_zero, List.set_cons_succ])
    refine wpAnyH_take (i := 2) (oi := ⟨_, _, _, _, _, _⟩) (v := ?_) rfl (by kernel_rfl) (by kernel_rfl) (by kernel_rfl) (fun _ _ _ h => h) (Or.inl ⟨by rfl, ?_⟩) (by assumption) ?_
    rotate_left
    · (intro w hSw; (try dsimp only at hSw); go_simp; (try with_reducible rfl))
    (try simp only [Act.put, List.setIfInBounds_toArray, List.set_cons_zero, List.set_cons_succ])
    refine wpAnyH_take (i := 3) (oi := ⟨_, _, _, _, _, _⟩) (v := ?_) rfl (by kernel_rfl) (by kernel_rfl) (by kernel_rfl) (fun _ _ _ h => h) (Or.inl ⟨by rfl, ?_⟩) (by assumption) ?_
    rotate_left
    · (intro w hSw; (try dsimp only at hSw); go_simp; (try with_reducible rfl))
    (try simp only [Act.put, List.setIfInBounds_toArray, List.set_cons_zero, List.set_cons_succ])
    refine wpAnyH_take (i := 5) (oi := ⟨_, _, _, _, _, _⟩) (v := ?_) rfl (by kernel_rfl) (by kernel_rfl) (by kernel_rfl) (fun _ _ _ h => h) (Or.inl ⟨by rfl, ?_⟩) (by assumption) ?_
    rotate_left
    · (intro w hSw; (try dsimp only at hSw); go_simp; (try with_reducible rfl))
    (try simp only [Act.put, List.setIfInBounds_toArray, List.set_cons_zero, List.set_cons_succ])
    refine wpAnyH_take (i := 6) (oi := ⟨_, _, _, _, _, _⟩) (v := ?_) rfl (by kernel_rfl) (by kernel_rfl) (by kernel_rfl) (fun _ _ _ h => h) (Or.inl ⟨by rfl, ?_⟩) (by assumption) ?_
    rotate_left
    · (intro w hSw; (try dsimp only at hSw); go_simp; (try with_reducible rfl))
    (try simp only [Act.put, List.setIfInBounds_toArray, List.set_cons_zero, List.set_cons_succ])
    refine wpAnyH_ready (rs := [4]) (by kernel_rfl) (by simp) ?_
    refine AllReadyH.cons (o := ⟨_, _, _, _, _, _⟩) rfl (fun K hK => ?_) AllReadyH.nil
    go_simp
    refine hK.out _ _ ?_ (fun hHeld => ?_)
    · (try dsimp only)
      (((try go_split_ands); (try dsimp only); (repeat' apply And.intro)) <;> (repeat (first | with_reducible assumption | ((with_reducible refine cnew0 ?_); simp; done) | ((with_reducible refine cnew1 ?_); simp; done) | (with_reducible refine akeep ?_) | (with_reducible refine dkeep ?_) | ((with_reducible refine skeep ?_ ?_); rotate_left; (first | ((try dsimp only); omega) | (simp; done) | (simp; omega))) | (with_reducible refine bkeep hb3 ?_))))
    clear hK K
    (try simp only [Act.put, List.setIfInBounds_toArray, List.set_cons_zero, List.set_cons_succ])
    refine wpAnyH_take (i := 7) (oi := ⟨_, _, _, _, _, _⟩) (v := ?_) rfl (by kernel_rfl) (by kernel_rfl) (by kernel_rfl) (fun _ _ _ h => h) (Or.inl ⟨by rfl, ?_⟩) (by assumption) ?_
    rotate_left
    · (intro w hSw; (try dsimp only at hSw); go_simp; (try with_reducible rfl))
    (try simp only [Act.put, List.setIfInBounds_toArray, List.set_cons_zero, List.set_cons_succ])
    refine wpAnyH_take (i := 8) (oi := ⟨_, _, _, _, _, _⟩) (v := ?_) rfl (by kernel_rfl) (by kernel_rfl) (by kernel_rfl) (fun _ _ _ h => h) (Or.inl ⟨by rfl, ?_⟩) (by assumption) ?_
    rotate_left
    · (intro w hSw; (try dsimp only at hSw); go_simp; (try with_reducible rfl))
    (try simp only [Act.put, List.setIfInBounds_toArray, List.set_cons_zero, List.set_cons_succ])
    refine wpAnyH_ready (rs := [9]) (by kernel_rfl) (by simp) ?_
    refine AllReadyH.cons (o := ⟨_, _, _, _, _, _⟩) rfl (fun K hK => ?_) AllReadyH.nil
    go_simp
    refine hK.out _ _ ?_ (fun hHeld => ?_)
    · (try dsimp only)
      (((try go_split_ands); (try dsimp only); (repeat' apply And.intro)) <;> (repeat (first | with_reducible assumption | ((with_reducible refine cnew0 ?_); simp; done) | ((with_reducible refine cnew1 ?_); simp; done) | (with_reducible refine akeep ?_) | (with_reducible refine dkeep ?_) | ((with_reducible refine skeep ?_ ?_); rotate_left; (first | ((try dsimp only); omega) | (simp; done) | (simp; omega))) | (with_reducible refine bkeep hb3 ?_))))
    clear hK K
    (try simp only [Act.put, List.setIfInBounds_toArray, List.set_cons_zero, List.set_cons_succ])
    refine wpAnyH_done (by kernel_rfl) ?_ _
    dsimp only [onlyN]
    have BD : Below (W6.setCell ⟨rb, x.b, none⟩ (.int .i64 (bF pre x x.b + x.s))).heap.size (W6.setCell ⟨rb, x.b, none⟩ (.int .i64 (bF pre x x.b + x.s))) (W6.setCell ⟨rb, x.b, none⟩ (.int .i64 (bF pre x x.b + x.s))).drew := by (repeat (first | exact Below.refl _ _ | refine Below.setCell ?_ (by first | (simp; done) | (simp; omega) | omega) _ | refine belowN ?_ _ | refine Below.drew ?_ | refine Below.alloc ?_ (by first | (simp; done) | (simp; omega) | omega) _ | refine Below.trans ?_ (Below.mono (by assumption) (by first | (simp; done) | (simp; omega) | omega))))
    have R7 : BiRow (W6.setCell ⟨rb, x.b, none⟩ (.int .i64 (bF pre x x.b + x.s))).drew rb P2.length (pre ++ [x]) := by
      refine ((World.rowIs.set HR6.out x.b _).congr fun j _ => ?_).of_block rfl
      rw [← bF_snoc]
      by_cases hj : j = x.b
      · rw [if_pos hj, if_pos hj]
      · rw [if_neg hj, if_neg hj]
    have L7 : At1 (W6.setCell ⟨rb, x.b, none⟩ (.int .i64 (bF pre x x.b + x.s))).drew (rb + 1) (.slice (some ⟨rb, 0, none⟩) P2.length P2.length) := L6.out.of_block ((show _ = _ from rfl).trans (Below.heap_setCell W6 ⟨rb, x.b, none⟩ _ _ (by dsimp only; omega)))
    have b7 : Below w.heap.size w (W6.setCell ⟨rb, x.b, none⟩ (.int .i64 (bF pre x x.b + x.s))).drew := (b6.setCell (p := ⟨rb, x.b, none⟩) (by dsimp only; omega) _).trans (BD.mono (by simpa [World.setCell] using b6.size))
    have sp7 : Spare (fun k => k < W.heap.size ∧ k ≠ rb) W.heap.size C W' (W6.setCell ⟨rb, x.b, none⟩ (.int .i64 (bF pre x x.b + x.s))).drew := HSP.out.trans ((Spare.set (by simp) (.inl (by dsimp only; omega)) _).trans (Spare.of BD))
    generalize (W6.setCell ⟨rb, x.b, none⟩ (.int .i64 (bF pre x x.b + x.s))).drew = W7 at *
    have HR7 := Lib.hid R7
    have HL7 := Lib.hid L7
    have HB7 := Lib.hid b7
    have HS7 := Lib.hid sp7
    clear hHeld x0 x1 x2 s0 d0 d1 BD R7 L7 b7 sp7
    gi_wp2
    exact ⟨⟨HR7.out, HL7.out, HB7.out⟩, ⟨fun _ => False, fun _ h => h.elim⟩, by have h := HS7.out; rw [zW] at h; exact h⟩
  case done =>
    rintro C W3 hzW ⟨h4, h5, h3⟩ nD hK
    have s5 := h5.c0
    have ls := h5.lt
    have H4 := Lib.hid h4
    have l4 := h4.lt
    clear h4
    gi_wp2
    refine ⟨by simp, .inl ⟨_, _, rfl, run_takeDeferred hK, ?_⟩⟩
    refine ⟨_, results_tmp2 rfl _ _ _, ?_, h3.trans ((Below.refl _ W3).grown (grownBy_putObj' W3 _ _) h3.size (fun k e => by cases e; omega))⟩
    show ZPost w _ _ (.returned (.tuple #[.slice (some ⟨rb, 0, none⟩) P2.length P2.length, .int .i64 0])) _
    exact ZPost.mk K2.out.symm (by rw [K.out]; exact BiRow.own (H4.out.of_block ((grownBy_putObj' W3 _ _).block rb l4 (fun e => by cases e; omega))) HVa.out rfl (by omega) z1)
end Go.Proofs.YtnofbeeihdgmdaaDoor
