/-
  What the laws draw from the source: two fractions. Conditions: each theorem's own.
-/
import Derived.Test.YtlfobdnjjbhehaaSrc3
namespace Go.Proofs.Ytlfobdnjjbhehaa
open Go.RowKit

set_option maxHeartbeats 1000000 in
set_option maxRecDepth 100000 in
theorem l01Two_any (cv : Value) (w : World) (hc : Code w cv) :
    Calls Try.prog 12 #[cv] w fun e w' => (∃ x y p q : Int, e = .returned (.tuple #[.agg #[.int .i64 x, .int .i64 y], .agg #[.int .i64 p, .int .i64 q]])) ∧ Below w.heap.size w w' := by
  have hap := fun b hb => hc.apart (b := b) hb
  go_enter Try.func12, Try.ntmps12
  go_wp2_with fail
  refine (from_any cv _ (hc.below (by (repeat (first | exact Below.refl _ _ | refine Below.setCell ?_ (by first | (simp; done) | (simp; omega) | omega) _ | refine belowN ?_ _ | refine Below.drew ?_ | refine Below.alloc ?_ (by first | (simp; done) | (simp; omega) | omega) _ | refine Below.trans ?_ (Below.mono (by assumption) (by first | (simp; done) | (simp; omega) | omega))))))).mono ?_
  rintro e w1 ⟨rfl, hs1, hc1, hb1⟩
  obtain ⟨c0, c1, z0, z1⟩ := Two.below (b := w.heap.size) (x := .int .i64 0) (y := .int .i64 0) ⟨by simp [go_sem], by simp [go_sem], by simp [go_sem], by simp [go_sem]⟩ hb1
  obtain ⟨c4, c5, z4, z5⟩ := Two.below (b := w.heap.size + 1) (x := .int .i64 0) (y := .int .i64 0) ⟨by simp [go_sem], by simp [go_sem], by simp [go_sem], by simp [go_sem]⟩ hb1
  have B1 : Below w.heap.size w w1 := by (repeat (first | exact Below.refl _ _ | refine Below.setCell ?_ (by first | (simp; done) | (simp; omega) | omega) _ | refine belowN ?_ _ | refine Below.drew ?_ | refine Below.alloc ?_ (by first | (simp; done) | (simp; omega) | omega) _ | refine Below.trans ?_ (Below.mono (by assumption) (by first | (simp; done) | (simp; omega) | omega))))
  have T1 : Two w1 w.heap.size (.int .i64 0) (.int .i64 0) := ⟨c0, c1, z0, z1⟩
  have U1 : Two w1 (w.heap.size + 1) (.int .i64 0) (.int .i64 0) := ⟨c4, c5, z4, z5⟩
  clear c0 c1 z0 z1 c4 c5 z4 z5 hb1 hc
  simp only [World.alloc, Array.size_push] at hs1 ⊢
  generalize hbd : w.heap.size + 1 + 1 = b at hs1 ⊢
  have hap' := hap b (by omega)
  have n0 : w.heap.size ≠ b := by omega
  have n1 : w.heap.size + 1 ≠ b := by omega
  go_wp2_with fail
  refine (drawFrac_any b 0 cv _ hs1 hc1 hap' (by omega)).mono ?_
  rintro e w2 ⟨x, y, rfl, hs2, hg2⟩
  have hc2 := hc1.grow hg2 hap'
  have T2 := T1.grow hg2 n0
  have U2 := U1.grow hg2 n1
  have B2 := B1.grown hg2 B1.size (fun k hk => by cases hk; omega)
  clear hs1 hc1 T1 U1 B1 hg2
  have bA : Below w2.heap.size w2 (w2.alloc (.cells #[.int .i64 x, .int .i64 y] 25)) := (Below.refl _ _).alloc (Nat.le_refl _) _
  have A3 : Two (w2.alloc (.cells #[.int .i64 x, .int .i64 y] 25)) w2.heap.size (.int .i64 x) (.int .i64 y) := Two.new _ _ _ _ rfl
  have T3 := T2.below bA
  have U3 := U2.below bA
  have hs3 := hs2.below bA hs2.lt
  have hc3 := hc2.below bA
  have B3 := B2.trans (bA.mono B2.size)
  have hlb := hs2.lt
  have lt0 := T2.lt
  have lt1 := U2.lt
  clear T2 U2 hs2 hc2
  go_wp2_with fail
  generalize w2.alloc (.cells #[.int .i64 x, .int .i64 y] 25) = w3 at *
  generalize hq : w2.heap.size = q at *
  have nq : q ≠ b := by omega
  have a0 := A3.c0
  have a1 := A3.c1
  refine wp_region_held_drew (S := (fun w' => w'.cell? ⟨q, 0, none⟩ = some (.int .i64 x) ∧ w'.cell? ⟨q, 1, none⟩ = some (.int .i64 y))) (by kernel_rfl) ?_ (fun hHeld => ?_)
  · (try dsimp only)
    (((try go_split_ands); (try dsimp only); (repeat' apply And.intro)) <;> (repeat (first | with_reducible assumption | ((with_reducible refine cnew0 ?_); simp; done) | ((with_reducible refine cnew1 ?_); simp; done) | (with_reducible refine akeep ?_) | (with_reducible refine dkeep ?_) | ((with_reducible refine skeep ?_ ?_); rotate_left; (first | ((try dsimp only); omega) | (simp; done) | (simp; omega))) | (with_reducible refine bkeep hb3 ?_))))
  refine wpAnyH_take (i := 0) (oi := ⟨_, _, _, _, _, _⟩) (v := ?_) rfl (by kernel_rfl) (by kernel_rfl) (by kernel_rfl) (fun _ _ _ h => h) (Or.inl ⟨by rfl, ?_⟩) (by assumption) ?_
  rotate_left
  · (intro w hSw; (try dsimp only at hSw); go_simp; (try with_reducible rfl))
  (try simp only [Act.put, List.setIfInBounds_toArray, List.set_cons_zero, List.set_cons_succ])
  refine wpAnyH_take (i := 1) (oi := ⟨_, _, _, _, _, _⟩) (v := ?_) rfl (by kernel_rfl) (by kernel_rfl) (by kernel_rfl) (fun _ _ _ h => h) (Or.inl ⟨by rfl, ?_⟩) (by assumption) ?_
  rotate_left
  · (intro w hSw; (try dsimp only at hSw); go_simp; (try with_reducible rfl))
  (try simp only [Act.put, List.setIfInBounds_toArray, List.set_cons_zero, List.set_cons_succ])
  refine wpAnyH_ready (rs := [2]) (by kernel_rfl) (by simp) ?_
  refine AllReadyH.cons (o := ⟨_, _, _, _, _, _⟩) rfl (fun K hK => ?_) AllReadyH.nil
  go_simp
  (go_at_call 22; refine (drawFrac_any b (0 + 20) cv _ (hs3.below (show Below w3.heap.size w3 _ by (repeat (first | exact Below.refl _ _ | refine Below.setCell ?_ (by first | (simp; done) | (simp; omega) | omega) _ | refine belowN ?_ _ | refine Below.drew ?_ | refine Below.alloc ?_ (by first | (simp; done) | (simp; omega) | omega) _ | refine Below.trans ?_ (Below.mono (by assumption) (by first | (simp; done) | (simp; omega) | omega))))) hs3.lt) (hc3.below (show Below w3.heap.size w3 _ by (repeat (first | exact Below.refl _ _ | refine Below.setCell ?_ (by first | (simp; done) | (simp; omega) | omega) _ | refine belowN ?_ _ | refine Below.drew ?_ | refine Below.alloc ?_ (by first | (simp; done) | (simp; omega) | omega) _ | refine Below.trans ?_ (Below.mono (by assumption) (by first | (simp; done) | (simp; omega) | omega)))))) hap' (by omega)).mono ?_; rintro e w4 ⟨r, s, rfl, hs4, hg4⟩; have B4 := (B3.trans ((show Below w3.heap.size w3 _ by (repeat (first | exact Below.refl _ _ | refine Below.setCell ?_ (by first | (simp; done) | (simp; omega) | omega) _ | refine belowN ?_ _ | refine Below.drew ?_ | refine Below.alloc ?_ (by first | (simp; done) | (simp; omega) | omega) _ | refine Below.trans ?_ (Below.mono (by assumption) (by first | (simp; done) | (simp; omega) | omega))))).mono B3.size)).grown hg4 (Nat.le_trans B3.size (show Below w3.heap.size w3 _ by (repeat (first | exact Below.refl _ _ | refine Below.setCell ?_ (by first | (simp; done) | (simp; omega) | omega) _ | refine belowN ?_ _ | refine Below.drew ?_ | refine Below.alloc ?_ (by first | (simp; done) | (simp; omega) | omega) _ | refine Below.trans ?_ (Below.mono (by assumption) (by first | (simp; done) | (simp; omega) | omega))))).size) (fun k hk => by cases hk; omega); obtain ⟨k0, k1, -, -⟩ := (A3.below (show Below w3.heap.size w3 _ by (repeat (first | exact Below.refl _ _ | refine Below.setCell ?_ (by first | (simp; done) | (simp; omega) | omega) _ | refine belowN ?_ _ | refine Below.drew ?_ | refine Below.alloc ?_ (by first | (simp; done) | (simp; omega) | omega) _ | refine Below.trans ?_ (Below.mono (by assumption) (by first | (simp; done) | (simp; omega) | omega)))))).grow hg4 nq; obtain ⟨t0, t1, y0, y1⟩ := (T3.below (show Below w3.heap.size w3 _ by (repeat (first | exact Below.refl _ _ | refine Below.setCell ?_ (by first | (simp; done) | (simp; omega) | omega) _ | refine belowN ?_ _ | refine Below.drew ?_ | refine Below.alloc ?_ (by first | (simp; done) | (simp; omega) | omega) _ | refine Below.trans ?_ (Below.mono (by assumption) (by first | (simp; done) | (simp; omega) | omega)))))).grow hg4 n0; obtain ⟨u0, u1, y2, y3⟩ := (U3.below (show Below w3.heap.size w3 _ by (repeat (first | exact Below.refl _ _ | refine Below.setCell ?_ (by first | (simp; done) | (simp; omega) | omega) _ | refine belowN ?_ _ | refine Below.drew ?_ | refine Below.alloc ?_ (by first | (simp; done) | (simp; omega) | omega) _ | refine Below.trans ?_ (Below.mono (by assumption) (by first | (simp; done) | (simp; omega) | omega)))))).grow hg4 n1; have s4 := B4.size)
  refine hK.out _ _ ?_ (fun hHeld => ?_)
  · (try dsimp only)
    (((try go_split_ands); (try dsimp only); (repeat' apply And.intro)) <;> (repeat (first | with_reducible assumption | ((with_reducible refine cnew0 ?_); simp; done) | ((with_reducible refine cnew1 ?_); simp; done) | (with_reducible refine akeep ?_) | (with_reducible refine dkeep ?_) | ((with_reducible refine skeep ?_ ?_); rotate_left; (first | ((try dsimp only); omega) | (simp; done) | (simp; omega))) | (with_reducible refine bkeep hb3 ?_))))
  clear hK K
  (try simp only [Act.put, List.setIfInBounds_toArray, List.set_cons_zero, List.set_cons_succ])
  refine wpAnyH_ready (rs := [3]) (by kernel_rfl) (by simp) ?_
  refine AllReadyH.cons (o := ⟨_, _, _, _, _, _⟩) rfl (fun K hK => ?_) AllReadyH.nil
  go_simp
  refine hK.out _ _ ?_ (fun hHeld => ?_)
  · (try dsimp only)
    (((try go_split_ands); (try dsimp only); (repeat' apply And.intro)) <;> (repeat (first | with_reducible assumption | ((with_reducible refine cnew0 ?_); simp; done) | ((with_reducible refine cnew1 ?_); simp; done) | (with_reducible refine akeep ?_) | (with_reducible refine dkeep ?_) | ((with_reducible refine skeep ?_ ?_); rotate_left; (first | ((try dsimp only); omega) | (simp; done) | (simp; omega))) | (with_reducible refine bkeep hb3 ?_))))
  clear hK K
  (try simp only [Act.put, List.setIfInBounds_toArray, List.set_cons_zero, List.set_cons_succ])
  refine wpAnyH_ready (rs := [4]) (by kernel_rfl) (by simp) ?_
  refine AllReadyH.cons (o := ⟨_, _, _, _, _, _⟩) rfl (fun K hK => ?_) AllReadyH.nil
  go_simp
  refine hK.out _ _ ?_ (fun hHeld => ?_)
  · (try dsimp only)
    (((try go_split_ands); (try dsimp only); (repeat' apply And.intro)) <;> (repeat (first | with_reducible assumption | ((with_reducible refine cnew0 ?_); simp; done) | ((with_reducible refine cnew1 ?_); simp; done) | (with_reducible refine akeep ?_) | (with_reducible refine dkeep ?_) | ((with_reducible refine skeep ?_ ?_); rotate_left; (first | ((try dsimp only); omega) | (simp; done) | (simp; omega))) | (with_reducible refine bkeep hb3 ?_))))
  clear hK K
  (try simp only [Act.put, List.setIfInBounds_toArray, List.set_cons_zero, List.set_cons_succ])
  refine wpAnyH_done (by kernel_rfl) ?_ _
  go_wp2_with fail
  refine bodyPost_ret (v := .tuple #[.agg #[.int .i64 x, .int .i64 y], .agg #[.int .i64 r, .int .i64 s]]) (by simp [results, Try.results12, go_sem, t0, t1, u0, u1]) rfl ⟨⟨_, _, _, _, rfl⟩, ?_⟩
  (repeat (first | exact Below.refl _ _ | refine Below.setCell ?_ (by first | (simp; done) | (simp; omega) | omega) _ | refine belowN ?_ _ | refine Below.drew ?_ | refine Below.alloc ?_ (by first | (simp; done) | (simp; omega) | omega) _ | refine Below.trans ?_ (Below.mono (by assumption) (by first | (simp; done) | (simp; omega) | omega))))

set_option maxHeartbeats 1000000 in
theorem drawAddFrac_any (cv : Value) (w : World) (hc : Code w cv) :
    Calls Try.prog 5 #[cv] w fun e w' => (∃ x y p q : Int, e = .returned (.tuple #[.agg #[.int .i64 x, .int .i64 y], .agg #[.int .i64 p, .int .i64 q]])) ∧ Below w.heap.size w w' := by
  go_enter Try.func5, Try.ntmps5
  go_wp2_with fail
  refine (l01Two_any cv _ (hc.below (by (repeat (first | exact Below.refl _ _ | refine Below.setCell ?_ (by first | (simp; done) | (simp; omega) | omega) _ | refine belowN ?_ _ | refine Below.drew ?_ | refine Below.alloc ?_ (by first | (simp; done) | (simp; omega) | omega) _ | refine Below.trans ?_ (Below.mono (by assumption) (by first | (simp; done) | (simp; omega) | omega))))))).mono ?_
  rintro e w1 ⟨⟨x, y, p, q, rfl⟩, hb1⟩
  obtain ⟨c0, c1, z0, z1⟩ := Two.below (b := w.heap.size) (x := .int .i64 0) (y := .int .i64 0) ⟨by simp [go_sem], by simp [go_sem], by simp [go_sem], by simp [go_sem]⟩ hb1
  obtain ⟨c4, c5, z4, z5⟩ := Two.below (b := w.heap.size + 1) (x := .int .i64 0) (y := .int .i64 0) ⟨by simp [go_sem], by simp [go_sem], by simp [go_sem], by simp [go_sem]⟩ hb1
  go_wp2_with fail
  refine bodyPost_ret (v := .tuple #[.agg #[.int .i64 x, .int .i64 y], .agg #[.int .i64 p, .int .i64 q]]) (by simp [results, Try.results5, go_sem, c0, c1, c4, c5]) rfl ⟨⟨_, _, _, _, rfl⟩, ?_⟩
  (repeat (first | exact Below.refl _ _ | refine Below.setCell ?_ (by first | (simp; done) | (simp; omega) | omega) _ | refine belowN ?_ _ | refine Below.drew ?_ | refine Below.alloc ?_ (by first | (simp; done) | (simp; omega) | omega) _ | refine Below.trans ?_ (Below.mono (by assumption) (by first | (simp; done) | (simp; omega) | omega))))
end Go.Proofs.Ytlfobdnjjbhehaa
