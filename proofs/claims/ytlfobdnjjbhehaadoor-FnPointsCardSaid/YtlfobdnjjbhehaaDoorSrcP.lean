/-
  What the laws draw from the source: a point, a point and a direction. Conditions: each theorem's own.
-/
import Derived.Test.YtlfobdnjjbhehaaDoorSrc2
namespace Go.Proofs.YtlfobdnjjbhehaaDoor
open Go.RowKit

theorem Has.drew {w : World} {b k : Nat} {cv : Value} (h : Has w b cv k) : Has w.drew b cv k := let ⟨j, z, hj, hs⟩ := h; ⟨j, z, hj, hs.drew⟩
theorem Two.grow {w w' : World} {g b : Nat} {x y : Value} (h : Two w g x y) (hg : w.grownBy w' (some b)) (hne : g ≠ b) : Two w' g x y := by
  have e := hg.block g h.lt (fun e => hne (Option.some.inj e))
  exact ⟨(World.cell?_of_block e).trans h.c0, (World.cell?_of_block e).trans h.c1, (World.frozen?_of_block e).trans h.z0, (World.frozen?_of_block e).trans h.z1⟩
theorem Has.grow {w w' : World} {g b k : Nat} {cv : Value} (h : Has w b cv k) (hg : w.grownBy w' (some g)) (hne : b ≠ g) : Has w' b cv k := by
  have e := hg.block b h.lt (fun e => hne (Option.some.inj e))
  obtain ⟨j, z, hj, hs⟩ := h
  exact ⟨j, z, hj, (World.cell?_of_block e).trans hs.c0, (World.cell?_of_block e).trans hs.c1, (World.cell?_of_block e).trans hs.c2, (World.frozen?_of_block e).trans hs.z0, (World.frozen?_of_block e).trans hs.z1, (World.frozen?_of_block e).trans hs.z2⟩
theorem Has.set {w : World} {g b k : Nat} {cv : Value} (h : Has w b cv k) (hne : g ≠ b) (o : Nat) (v : Value) : Has (w.setCell ⟨g, o, none⟩ v) b cv k := h.grow (Lib.grownBy_setCell w g o v) (Ne.symm hne)
theorem grown_new {w w' : World} {row : Option Nat} (h : w.grownBy w' row) {g : Nat} (hg : w.heap.size ≤ g) (o : Nat) (v : Value) : w.grownBy (w'.setCell ⟨g, o, none⟩ v) row := by
  have B := Lib.grownBy_setCell w' g o v
  exact ⟨B.os.trans h.os, B.tape.trans h.tape, B.output.trans h.output, Nat.le_trans h.size B.size, fun k hk hr => (B.block k (Nat.lt_of_lt_of_le hk h.size) (fun e => absurd (Option.some.inj e) (by omega))).trans (h.block k hk hr)⟩
theorem Below.grows {w w' : World} (h : Below w.heap.size w w') (row : Option Nat) : w.grownBy w' row := ⟨h.os, h.tape, h.output, h.size, fun k hk _ => h.block k hk⟩
theorem Code.apart {w : World} {cv : Value} (h : Code w cv) {b : Nat} (hb : w.heap.size ≤ b) : ∀ cb off n cap, cv = .slice (some ⟨cb, off, none⟩) n cap → 0 < n → cb ≠ b := by
  intro cb off n cap e hn
  obtain ⟨ao, n', cap', rfl, -, hx⟩ := h
  cases e
  obtain ⟨cb', off', x, e2, c, -, -⟩ := hx 0 hn
  cases e2
  have := World.block_lt_of_cell? w ⟨cb, off + 0, none⟩ c
  simp at this
  omega

def edgeList : List Int := [-60, -61, 60, 61, -9223372036854775808, 9223372036854775807]
set_option maxHeartbeats 1000000 in
set_option maxRecDepth 100000 in
theorem drawPoint_any (b k : Nat) (cv : Value) (w : World) (h : Has w b cv k) (hc : Code w cv) (hb : ∀ cb off n cap, cv = .slice (some ⟨cb, off, none⟩) n cap → 0 < n → cb ≠ b) (hk : k < 700000) :
    Calls Tryd.prog 15 #[.pointer (some ⟨b, 0, none⟩)] w fun e w' => ∃ x y : Int, e = .returned (.agg #[.int .i64 x, .int .i64 y]) ∧ Has w' b cv (k + 20) ∧ w.grownBy w' (some b) := by
  have hlt := h.lt
  have hbl : Below w.heap.size w (w.alloc (.cells #[.int .i64 0, .int .i64 0] 25)) := (Below.refl _ _).alloc (Nat.le_refl _) _
  have h' := h.below hbl hlt
  have hc' := hc.below hbl
  have hg' := Below.grows hbl (some b)
  have T0 : Two (w.alloc (.cells #[.int .i64 0, .int .i64 0] 25)) w.heap.size (.int .i64 0) (.int .i64 0) := Two.new _ _ _ _ rfl
  have hne : w.heap.size ≠ b := by omega
  go_enter Tryd.func15, Tryd.ntmps15
  go_wp2_with fail
  refine (one_any b k 24 cv _ h' hc' hb (by omega) (by omega) (by omega)).mono ?_
  rintro e w1 ⟨t, rfl, hs1, hg1⟩
  have hc1 := hc'.grow hg1 hb
  have T1 := T0.grow hg1 hne
  have G1 := Lib.grownBy_trans hg' hg1
  clear h' hc' hg' T0 hg1 hbl
  cases t
  · go_wp2_with fail
    refine (pick_any b (k + 2) 9 cv _ hs1 hc1 hb (by omega) (by omega) (by omega)).mono ?_
    rintro e w2 ⟨x, rfl, x0, x1, hs2, hg2⟩
    have hc2 := hc1.grow hg2 hb
    have T2 := T1.grow hg2 hne
    have G2 := Lib.grownBy_trans G1 hg2
    clear hs1 hc1 T1 G1 hg2
    go_wp2_with fail
    refine (pick_any b (k + 4) 9 cv _ hs2 hc2 hb (by omega) (by omega) (by omega)).mono ?_
    rintro e w3 ⟨y, rfl, y0, y1, hs3, hg3⟩
    have T3 := T2.grow hg3 hne
    have G3 := Lib.grownBy_trans G2 hg3
    clear hs2 hc2 T2 G2 hg3
    obtain ⟨c0, c1, z0, z1⟩ := T3
    go_wp2
    refine bodyPost_ret (v := .agg #[.int .i64 (x - 4), .int .i64 (y - 4)]) (by simp [results, Tryd.results15, go_sem, c0, c1]) rfl ⟨x - 4, y - 4, rfl, ?_, ?_⟩
    · exact ((hs3.set hne 0 _).set hne 1 _).more (by omega)
    · exact grown_new (grown_new G3 (Nat.le_refl _) 0 _) (Nat.le_refl _) 1 _
  · go_wp2_with fail
    refine (among_lit edgeList b (k + 2) cv _ hs1 hc1 hb (by omega) (by decide) (by decide)).mono ?_
    rintro e w2 ⟨x, rfl, -, hs2, hg2⟩
    have hc2 := hc1.grow hg2 hb
    have T2 := T1.grow hg2 hne
    have G2 := Lib.grownBy_trans G1 hg2
    clear hs1 hc1 T1 G1 hg2
    go_wp2_with fail
    refine (pick_any b (k + 4) 9 cv _ hs2 hc2 hb (by omega) (by omega) (by omega)).mono ?_
    rintro e w3 ⟨y, rfl, y0, y1, hs3, hg3⟩
    have T3 := T2.grow hg3 hne
    have G3 := Lib.grownBy_trans G2 hg3
    clear hs2 hc2 T2 G2 hg3
    obtain ⟨c0, c1, z0, z1⟩ := T3
    go_wp2
    refine bodyPost_ret (v := .agg #[.int .i64 x, .int .i64 y]) (by simp [results, Tryd.results15, go_sem, c0, c1]) rfl ⟨x, y, rfl, ?_, ?_⟩
    · exact ((hs3.set hne 0 _).set hne 1 _).more (by omega)
    · exact grown_new (grown_new G3 (Nat.le_refl _) 0 _) (Nat.le_refl _) 1 _

set_option maxHeartbeats 1000000 in
set_option maxRecDepth 100000 in
theorem drawStepPoint_any (cv : Value) (w : World) (hc : Code w cv) :
    Calls Tryd.prog 5 #[cv] w fun e w' => (∃ x y d : Int, e = .returned (.tuple #[.agg #[.int .i64 x, .int .i64 y], .int .i64 d])) ∧ Below w.heap.size w w' := by
  have hap := fun b hb => hc.apart (b := b) hb
  go_enter Tryd.func5, Tryd.ntmps5
  go_wp2_with fail
  refine (from_any cv _ (hc.below (by (repeat (first | exact Below.refl _ _ | refine Below.setCell ?_ (by first | (simp; done) | (simp; omega) | omega) _ | refine belowN ?_ _ | refine Below.drew ?_ | refine Below.alloc ?_ (by first | (simp; done) | (simp; omega) | omega) _ | refine Below.trans ?_ (Below.mono (by assumption) (by first | (simp; done) | (simp; omega) | omega))))))).mono ?_
  rintro e w1 ⟨rfl, hs1, hc1, hb1⟩
  have T1 : Two w1 w.heap.size (.int .i64 0) (.int .i64 0) := Two.below (b := w.heap.size) (x := .int .i64 0) (y := .int .i64 0) ⟨by simp [go_sem], by simp [go_sem], by simp [go_sem], by simp [go_sem]⟩ hb1
  have B1 : Below w.heap.size w w1 := by (repeat (first | exact Below.refl _ _ | refine Below.setCell ?_ (by first | (simp; done) | (simp; omega) | omega) _ | refine belowN ?_ _ | refine Below.drew ?_ | refine Below.alloc ?_ (by first | (simp; done) | (simp; omega) | omega) _ | refine Below.trans ?_ (Below.mono (by assumption) (by first | (simp; done) | (simp; omega) | omega))))
  clear hb1 hc
  simp only [World.alloc, Array.size_push] at hs1 ⊢
  generalize hbd : w.heap.size + 1 = b at hs1 ⊢
  have hap' := hap b (by omega)
  have n0 : w.heap.size ≠ b := by omega
  go_wp2_with fail
  refine (drawPoint_any b 0 cv _ hs1 hc1 hap' (by omega)).mono ?_
  rintro e w2 ⟨x, y, rfl, hs2, hg2⟩
  have hc2 := hc1.grow hg2 hap'
  have T2 := T1.grow hg2 n0
  have B2 := B1.grown hg2 B1.size (fun k hk => by cases hk; omega)
  clear hs1 hc1 T1 B1 hg2
  have bA : Below w2.heap.size w2 (w2.alloc (.cells #[.int .i64 x, .int .i64 y] 25)) := (Below.refl _ _).alloc (Nat.le_refl _) _
  have A3 : Two (w2.alloc (.cells #[.int .i64 x, .int .i64 y] 25)) w2.heap.size (.int .i64 x) (.int .i64 y) := Two.new _ _ _ _ rfl
  have T3 := T2.below bA
  have hs3 := hs2.below bA hs2.lt
  have hc3 := hc2.below bA
  have B3 := B2.trans (bA.mono B2.size)
  have hlb := hs2.lt
  have lt0 := T2.lt
  clear T2 hs2 hc2
  go_wp2_with fail
  generalize w2.alloc (.cells #[.int .i64 x, .int .i64 y] 25) = w3 at *
  generalize hq : w2.heap.size = q at *
  have nq : q ≠ b := by omega
  have a0 := A3.c0
  have a1 := A3.c1
  refine wp_region_held_drew (S := (fun w' => w'.cell? ⟨q, 0, none⟩ = some (.int .i64 x) ∧ w'.cell? ⟨q, 1, none⟩ = some (.int .i64 y))) (by kernel_rfl) ?_ (fun hHeld => ?_)
  · (try dsimp only)
    (((try go_split_ands); (try dsimp only); (repeat' apply And.intro)) <;> (repeat (first | with_reducible assumption | ((with_reducible refine cnew0 ?_); simp; done) | ((with_reducible refine cnew1 ?_); simp; done) | (with_reducible refine akeep ?_) | (with_reducible refine dkeep ?_) | ((with_reducible refine skeep ?_ ?_); rotate_left; (first | ((try dsimp only); omega) | (simp; done) | (simp; omega))) | (with_reducible refine bkeep hb3 ?_))))
  refine wpAnyH_take (i := 0) (oi := ⟨_, _, _, _, _, _⟩) (v := ?_) rfl (by kernel_rfl) (by kernel_rfl) (by kernel_rfl) (fun _ _ _ h => h) (Or.inl ⟨by rfl, ?_⟩) (by assumption) ?_
  rotate_left
  · (intro w hSw; (try dsimp only at hSw); go_simp; (try with_reducible rfl))
  (try simp only [Act.put, List.setIfInBounds_toArray, List.set_cons_zero, List.set_cons_succ])
  refine wpAnyH_take (i := 1) (oi := ⟨_, _, _, _, _, _⟩) (v := ?_) rfl (by kernel_rfl) (by kernel_rfl) (by kernel_rfl) (fun _ _ _ h => h) (Or.inl ⟨by rfl, ?_⟩) (by assumption) ?_
  rotate_left
  · (intro w hSw; (try dsimp only at hSw); go_simp; (try with_reducible rfl))
  (try simp only [Act.put, List.setIfInBounds_toArray, List.set_cons_zero, List.set_cons_succ])
  refine wpAnyH_ready (rs := [2]) (by kernel_rfl) (by simp) ?_
  refine AllReadyH.cons (o := ⟨_, _, _, _, _, _⟩) rfl (fun K hK => ?_) AllReadyH.nil
  go_simp
  (go_at_call 16; refine (pick_any b (0 + 20) 6 cv _ (hs3.below (show Below w3.heap.size w3 _ by (repeat (first | exact Below.refl _ _ | refine Below.setCell ?_ (by first | (simp; done) | (simp; omega) | omega) _ | refine belowN ?_ _ | refine Below.drew ?_ | refine Below.alloc ?_ (by first | (simp; done) | (simp; omega) | omega) _ | refine Below.trans ?_ (Below.mono (by assumption) (by first | (simp; done) | (simp; omega) | omega))))) hs3.lt) (hc3.below (show Below w3.heap.size w3 _ by (repeat (first | exact Below.refl _ _ | refine Below.setCell ?_ (by first | (simp; done) | (simp; omega) | omega) _ | refine belowN ?_ _ | refine Below.drew ?_ | refine Below.alloc ?_ (by first | (simp; done) | (simp; omega) | omega) _ | refine Below.trans ?_ (Below.mono (by assumption) (by first | (simp; done) | (simp; omega) | omega)))))) hap' (by omega) (by omega) (by omega)).mono ?_; rintro e w4 ⟨d, rfl, d0, d1, hs4, hg4⟩; have B4 := (B3.trans ((show Below w3.heap.size w3 _ by (repeat (first | exact Below.refl _ _ | refine Below.setCell ?_ (by first | (simp; done) | (simp; omega) | omega) _ | refine belowN ?_ _ | refine Below.drew ?_ | refine Below.alloc ?_ (by first | (simp; done) | (simp; omega) | omega) _ | refine Below.trans ?_ (Below.mono (by assumption) (by first | (simp; done) | (simp; omega) | omega))))).mono B3.size)).grown hg4 (Nat.le_trans B3.size (show Below w3.heap.size w3 _ by (repeat (first | exact Below.refl _ _ | refine Below.setCell ?_ (by first | (simp; done) | (simp; omega) | omega) _ | refine belowN ?_ _ | refine Below.drew ?_ | refine Below.alloc ?_ (by first | (simp; done) | (simp; omega) | omega) _ | refine Below.trans ?_ (Below.mono (by assumption) (by first | (simp; done) | (simp; omega) | omega))))).size) (fun k hk => by cases hk; omega); obtain ⟨k0, k1, -, -⟩ := (A3.below (show Below w3.heap.size w3 _ by (repeat (first | exact Below.refl _ _ | refine Below.setCell ?_ (by first | (simp; done) | (simp; omega) | omega) _ | refine belowN ?_ _ | refine Below.drew ?_ | refine Below.alloc ?_ (by first | (simp; done) | (simp; omega) | omega) _ | refine Below.trans ?_ (Below.mono (by assumption) (by first | (simp; done) | (simp; omega) | omega)))))).grow hg4 nq; obtain ⟨t0, t1, y0, y1⟩ := (T3.below (show Below w3.heap.size w3 _ by (repeat (first | exact Below.refl _ _ | refine Below.setCell ?_ (by first | (simp; done) | (simp; omega) | omega) _ | refine belowN ?_ _ | refine Below.drew ?_ | refine Below.alloc ?_ (by first | (simp; done) | (simp; omega) | omega) _ | refine Below.trans ?_ (Below.mono (by assumption) (by first | (simp; done) | (simp; omega) | omega)))))).grow hg4 n0; have s4 := B4.size)
  refine hK.out _ _ ?_ (fun hHeld => ?_)
  · (try dsimp only)
    (((try go_split_ands); (try dsimp only); (repeat' apply And.intro)) <;> (repeat (first | with_reducible assumption | ((with_reducible refine cnew0 ?_); simp; done) | ((with_reducible refine cnew1 ?_); simp; done) | (with_reducible refine akeep ?_) | (with_reducible refine dkeep ?_) | ((with_reducible refine skeep ?_ ?_); rotate_left; (first | ((try dsimp only); omega) | (simp; done) | (simp; omega))) | (with_reducible refine bkeep hb3 ?_))))
  clear hK K
  (try simp only [Act.put, List.setIfInBounds_toArray, List.set_cons_zero, List.set_cons_succ])
  refine wpAnyH_take (i := 3) (oi := ⟨_, _, _, _, _, _⟩) (v := ?_) rfl (by kernel_rfl) (by kernel_rfl) (by kernel_rfl) (fun _ _ _ h => h) (Or.inl ⟨by rfl, ?_⟩) (by assumption) ?_
  rotate_left
  · (intro w hSw; (try dsimp only at hSw); go_simp; (try with_reducible rfl))
  (try simp only [Act.put, List.setIfInBounds_toArray, List.set_cons_zero, List.set_cons_succ])
  refine wpAnyH_ready (rs := [4]) (by kernel_rfl) (by simp) ?_
  refine AllReadyH.cons (o := ⟨_, _, _, _, _, _⟩) rfl (fun K hK => ?_) AllReadyH.nil
  go_simp
  refine hK.out _ _ ?_ (fun hHeld => ?_)
  · (try dsimp only)
    (((try go_split_ands); (try dsimp only); (repeat' apply And.intro)) <;> (repeat (first | with_reducible assumption | ((with_reducible refine cnew0 ?_); simp; done) | ((with_reducible refine cnew1 ?_); simp; done) | (with_reducible refine akeep ?_) | (with_reducible refine dkeep ?_) | ((with_reducible refine skeep ?_ ?_); rotate_left; (first | ((try dsimp only); omega) | (simp; done) | (simp; omega))) | (with_reducible refine bkeep hb3 ?_))))
  clear hK K
  (try simp only [Act.put, List.setIfInBounds_toArray, List.set_cons_zero, List.set_cons_succ])
  refine wpAnyH_take (i := 5) (oi := ⟨_, _, _, _, _, _⟩) (v := ?_) rfl (by kernel_rfl) (by kernel_rfl) (by kernel_rfl) (fun _ _ _ h => h) (Or.inl ⟨by rfl, ?_⟩) (by assumption) ?_
  rotate_left
  · (intro w hSw; (try dsimp only at hSw); go_simp; (try with_reducible rfl))
  (try simp only [Act.put, List.setIfInBounds_toArray, List.set_cons_zero, List.set_cons_succ])
  refine wpAnyH_done (by kernel_rfl) ?_ _
  go_wp2_with fail
  have hwr : IntKind.i64.wrap (d - 1) = d - 1 := IntWalk.i64_in _ (by omega)
  refine bodyPost_ret (v := .tuple #[.agg #[.int .i64 x, .int .i64 y], .int .i64 (d - 1)]) (by simp [results, Tryd.results5, go_sem, t0, t1, hwr]) rfl ⟨⟨_, _, _, rfl⟩, ?_⟩
  (repeat (first | exact Below.refl _ _ | refine Below.setCell ?_ (by first | (simp; done) | (simp; omega) | omega) _ | refine belowN ?_ _ | refine Below.drew ?_ | refine Below.alloc ?_ (by first | (simp; done) | (simp; omega) | omega) _ | refine Below.trans ?_ (Below.mono (by assumption) (by first | (simp; done) | (simp; omega) | omega))))
end Go.Proofs.YtlfobdnjjbhehaaDoor
