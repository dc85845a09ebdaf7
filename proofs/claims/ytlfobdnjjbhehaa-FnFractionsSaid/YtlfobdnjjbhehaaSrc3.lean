/-
  What the laws draw from the source: a fraction, two fractions. Conditions: each theorem's own.
-/
import Derived.Test.YtlfobdnjjbhehaaSrc2
import Derived.Test.YtlfobdnjjbhehaaFrac3
import Derived.Test.YtlfobdnjjbhehaaMakeFrac
namespace Go.Proofs.Ytlfobdnjjbhehaa
open Go.RowKit

theorem Two.grow {w w' : World} {g b : Nat} {x y : Value} (h : Two w g x y) (hg : w.grownBy w' (some b)) (hne : g ≠ b) : Two w' g x y := by
  have e := hg.block g h.lt (fun e => hne (Option.some.inj e))
  exact ⟨(World.cell?_of_block e).trans h.c0, (World.cell?_of_block e).trans h.c1, (World.frozen?_of_block e).trans h.z0, (World.frozen?_of_block e).trans h.z1⟩
theorem Has.grow {w w' : World} {g b k : Nat} {cv : Value} (h : Has w b cv k) (hg : w.grownBy w' (some g)) (hne : b ≠ g) : Has w' b cv k := by
  have e := hg.block b h.lt (fun e => hne (Option.some.inj e))
  obtain ⟨j, z, hj, hs⟩ := h
  exact ⟨j, z, hj, (World.cell?_of_block e).trans hs.c0, (World.cell?_of_block e).trans hs.c1, (World.cell?_of_block e).trans hs.c2, (World.frozen?_of_block e).trans hs.z0, (World.frozen?_of_block e).trans hs.z1, (World.frozen?_of_block e).trans hs.z2⟩
theorem grown_new {w w' : World} {row : Option Nat} (h : w.grownBy w' row) {g : Nat} (hg : w.heap.size ≤ g) (o : Nat) (v : Value) : w.grownBy (w'.setCell ⟨g, o, none⟩ v) row := by
  have B := Lib.grownBy_setCell w' g o v
  exact ⟨B.os.trans h.os, B.tape.trans h.tape, B.output.trans h.output, Nat.le_trans h.size B.size, fun k hk hr => (B.block k (Nat.lt_of_lt_of_le hk h.size) (fun e => absurd (Option.some.inj e) (by omega))).trans (h.block k hk hr)⟩
theorem Has.set {w : World} {g b k : Nat} {cv : Value} (h : Has w b cv k) (hne : g ≠ b) (o : Nat) (v : Value) : Has (w.setCell ⟨g, o, none⟩ v) b cv k := h.grow (Lib.grownBy_setCell w g o v) (Ne.symm hne)
theorem Below.grows {w w' : World} (h : Below w.heap.size w w') (row : Option Nat) : w.grownBy w' row := ⟨h.os, h.tape, h.output, h.size, fun k hk _ => h.block k hk⟩

set_option maxHeartbeats 1000000 in
set_option maxRecDepth 100000 in
theorem drawFrac_any (b k : Nat) (cv : Value) (w : World) (h : Has w b cv k) (hc : Code w cv) (hb : ∀ cb off n cap, cv = .slice (some ⟨cb, off, none⟩) n cap → 0 < n → cb ≠ b) (hk : k < 700000) :
    Calls Try.prog 22 #[.pointer (some ⟨b, 0, none⟩)] w fun e w' => ∃ x y : Int, e = .returned (.agg #[.int .i64 x, .int .i64 y]) ∧ Has w' b cv (k + 20) ∧ w.grownBy w' (some b) := by
  have hlt := h.lt
  have hbl : Below w.heap.size w (w.alloc (.cells #[.int .i64 0, .int .i64 0] 25)) := (Below.refl _ _).alloc (Nat.le_refl _) _
  have h' := h.below hbl hlt
  have hc' := hc.below hbl
  have hg' := Below.grows hbl (some b)
  have T0 : Two (w.alloc (.cells #[.int .i64 0, .int .i64 0] 25)) w.heap.size (.int .i64 0) (.int .i64 0) := Two.new _ _ _ _ rfl
  have hne : w.heap.size ≠ b := by omega
  go_enter Try.func22, Try.ntmps22
  go_wp2_with fail
  refine (one_any b k 24 cv _ h' hc' hb (by omega) (by omega) (by omega)).mono ?_
  rintro e w1 ⟨t, rfl, hs1, hg1⟩
  have hc1 := hc'.grow hg1 hb
  have T1 := T0.grow hg1 hne
  have G1 := Lib.grownBy_trans hg' hg1
  clear h' hc' hg' T0 hg1 hbl
  cases t
  · go_wp2_with fail
    refine (one_any b (k + 2) 6 cv _ hs1 hc1 hb (by omega) (by omega) (by omega)).mono ?_
    rintro e w2 ⟨t, rfl, hs2, hg2⟩
    have hc2 := hc1.grow hg2 hb
    have T2 := T1.grow hg2 hne
    have G2 := Lib.grownBy_trans G1 hg2
    clear hs1 hc1 T1 G1 hg2
    cases t
    · go_wp2_with fail
      refine (pick_any b (k + 4) 60 cv _ hs2 hc2 hb (by omega) (by omega) (by omega)).mono ?_
      rintro e w3 ⟨x, rfl, x0, x1, hs3, hg3⟩
      have hc3 := hc2.grow hg3 hb
      have T3 := T2.grow hg3 hne
      have G3 := Lib.grownBy_trans G2 hg3
      clear hs2 hc2 T2 G2 hg3
      go_wp2_with fail
      refine (pick_any b (k + 6) 40 cv _ hs3 hc3 hb (by omega) (by omega) (by omega)).mono ?_
      rintro e w4 ⟨y, rfl, y0, y1, hs4, hg4⟩
      have T4 := T3.grow hg4 hne
      have G4 := Lib.grownBy_trans G3 hg4
      clear hs3 hc3 T3 G3 hg4
      go_wp2_with fail
      refine (specMake_any _ _ _).mono ?_
      rintro e w5 ⟨rfl, hb5⟩
      have hs5 := hs4.below hb5 hs4.lt
      have T5 := T4.below hb5
      have G5 := Lib.grownBy_trans G4 (Below.grows hb5 (some b))
      clear hs4 T4 G4
      have s5 : w.heap.size < w5.heap.size := T5.lt
      obtain ⟨c0, c1, z0, z1⟩ := T5
      go_wp2
      refine bodyPost_ret (v := .agg #[.int .i64 (make1 (x - 30) (1 + y)), .int .i64 (make2 (x - 30) (1 + y))]) (by simp [results, Try.results22, go_sem, c0, c1, s5]) rfl ⟨_, _, rfl, ?_, ?_⟩
      · have H := (hs5.set hne 0 (.int .i64 (make1 (x - 30) (1 + y)))).set hne 1 (.int .i64 (make2 (x - 30) (1 + y)))
        exact (H.below ((Below.refl _ _).alloc (Nat.le_refl _) _) H.lt).more (by omega)
      · exact Lib.grownBy_trans (grown_new (grown_new G5 (Nat.le_refl _) 0 _) (Nat.le_refl _) 1 _) (World.grownBy_alloc _ _ (some b))
    · go_wp2_with fail
      refine (among_lit [999999937, -999999937, 500000003, 1000000000, 1] b (k + 4) cv _ hs2 hc2 hb (by omega) (by decide) (by decide)).mono ?_
      rintro e w3 ⟨x, rfl, -, hs3, hg3⟩
      have hc3 := hc2.grow hg3 hb
      have T3 := T2.grow hg3 hne
      have G3 := Lib.grownBy_trans G2 hg3
      clear hs2 hc2 T2 G2 hg3
      go_wp2_with fail
      refine (among_lit [1000000000, 999999929, 3, 1, 2] b (k + 6) cv _ hs3 hc3 hb (by omega) (by decide) (by decide)).mono ?_
      rintro e w4 ⟨y, rfl, -, hs4, hg4⟩
      have T4 := T3.grow hg4 hne
      have G4 := Lib.grownBy_trans G3 hg4
      clear hs3 hc3 T3 G3 hg4
      go_wp2_with fail
      refine (specMake_any _ _ _).mono ?_
      rintro e w5 ⟨rfl, hb5⟩
      have hs5 := hs4.below hb5 hs4.lt
      have T5 := T4.below hb5
      have G5 := Lib.grownBy_trans G4 (Below.grows hb5 (some b))
      clear hs4 T4 G4
      have s5 : w.heap.size < w5.heap.size := T5.lt
      obtain ⟨c0, c1, z0, z1⟩ := T5
      go_wp2
      refine bodyPost_ret (v := .agg #[.int .i64 (make1 x y), .int .i64 (make2 x y)]) (by simp [results, Try.results22, go_sem, c0, c1, s5]) rfl ⟨_, _, rfl, ?_, ?_⟩
      · have H := (hs5.set hne 0 (.int .i64 (make1 x y))).set hne 1 (.int .i64 (make2 x y))
        exact (H.below ((Below.refl _ _).alloc (Nat.le_refl _) _) H.lt).more (by omega)
      · exact Lib.grownBy_trans (grown_new (grown_new G5 (Nat.le_refl _) 0 _) (Nat.le_refl _) 1 _) (World.grownBy_alloc _ _ (some b))
  · go_wp2_with fail
    refine (raw_any b (k + 2) cv _ hs1 hc1 hb (by omega)).mono ?_
    rintro e w2 ⟨x, rfl, -, -, hs2, hg2⟩
    have hc2 := hc1.grow hg2 hb
    have T2 := T1.grow hg2 hne
    have G2 := Lib.grownBy_trans G1 hg2
    clear hs1 hc1 T1 G1 hg2
    go_wp2_with fail
    refine (raw_any b (k + 6) cv _ hs2 hc2 hb (by omega)).mono ?_
    rintro e w3 ⟨y, rfl, -, -, hs3, hg3⟩
    have T3 := T2.grow hg3 hne
    have G3 := Lib.grownBy_trans G2 hg3
    clear hs2 hc2 T2 G2 hg3
    obtain ⟨c0, c1, z0, z1⟩ := T3
    go_wp2
    refine bodyPost_ret (v := .agg #[.int .i64 x, .int .i64 y]) (by simp [results, Try.results22, go_sem, c0, c1]) rfl ⟨x, y, rfl, ?_, ?_⟩
    · exact ((hs3.set hne 0 _).set hne 1 _).more (by omega)
    · exact grown_new (grown_new G3 (Nat.le_refl _) 0 _) (Nat.le_refl _) 1 _
theorem Code.apart {w : World} {cv : Value} (h : Code w cv) {b : Nat} (hb : w.heap.size ≤ b) : ∀ cb off n cap, cv = .slice (some ⟨cb, off, none⟩) n cap → 0 < n → cb ≠ b := by
  intro cb off n cap e hn
  obtain ⟨ao, n', cap', rfl, -, hx⟩ := h
  cases e
  obtain ⟨cb', off', x, e2, c, -, -⟩ := hx 0 hn
  cases e2
  have := World.block_lt_of_cell? w ⟨cb, off + 0, none⟩ c
  simp at this
  omega

end Go.Proofs.Ytlfobdnjjbhehaa
