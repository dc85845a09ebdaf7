/-
  RotateSet of the program. Conditions: each theorem's own.
-/
import Derived.Test.YtcaidemlhgepfabSides
import Derived.Test.YtcaidemlhgepfabMirI
namespace Go.Proofs.Ytcaidemlhgepfab
open Go.RowKit

def rotTs (ts : List Tl) (q : Nat) : List Tl := ts.map fun t => ⟨t.name, rot t.sides q⟩
def rotS (S : Set_) (q : Nat) : Set_ := ⟨S.gs, rotTs S.ts q⟩
theorem rotTs_len (ts : List Tl) (q : Nat) : (rotTs ts q).length = ts.length := by simp [rotTs]
theorem rotTs_N (ts : List Tl) (q : Nat) {i : Nat} (h : i < ts.length) : tN (rotTs ts q) i = tN ts i := by simp [tN, rotTs, h]
theorem rotTs_S (ts : List Tl) (q : Nat) {i : Nat} (h : i < ts.length) : tS (rotTs ts q) i = rot (tS ts i) q := by simp [tS, rotTs, h]
theorem rot4 (zs : List Int) (n : Nat) : [iAt (rot zs n) 0, iAt (rot zs n) 1, iAt (rot zs n) 2, iAt (rot zs n) 3] = rot zs n := rfl
noncomputable def ro1 (S : Set_) (q : Int) : Set_ := if validB S = true ∧ 0 ≤ q ∧ q ≤ 3 then rotS S q.toNat else ⟨[], []⟩
noncomputable def ro2 (S : Set_) (q : Int) : Int := if validB S = true then (if 0 ≤ q ∧ q ≤ 3 then 0 else 2) else 1

set_option maxRecDepth 100000 in
set_option maxHeartbeats 4000000 in
theorem implRotateSet_any (vg vt : Value) (S : Set_) (q : Int) (w : World) (hS : SetIn w vg vt S) (hsol : Solid vg) (ok : S.ok) (hs : S.small) :
    Calls Try.prog 25 #[.agg #[vg, vt], .int .i64 q] w fun e w' => SetPost w (ro1 S q) (ro2 S q) e w' ∧ Below w.heap.size w w' := by
  have HS := Lib.hid hS
  have hgl := hs.gl
  have htl := hs.tl
  clear hS
  cases hv : validB S
  · have K := Lib.hid (show ro1 S q = ⟨[], []⟩ ∧ ro2 S q = 1 by simp [ro1, ro2, hv])
    go_enter Try.func25, Try.ntmps25
    go_wp2_with fail
    refine (implValid_any vg vt S _ (HS.out.below (by (repeat (first | exact Below.refl _ _ | refine Below.setCell ?_ (by first | (simp; done) | (simp; omega) | omega) _ | refine belowN ?_ _ | refine Below.drew ?_ | refine Below.alloc ?_ (by first | (simp; done) | (simp; omega) | omega) _ | refine Below.trans ?_ (Below.mono (by assumption) (by first | (simp; done) | (simp; omega) | omega)))))) ok hs).mono ?_
    rintro e w1 ⟨rfl, hb1⟩
    obtain ⟨hc1, hf1, hl1, -⟩ := bfull hb1
    go_wp2_with fail
    refine bodyPost_ret (v := .tuple #[.agg #[.slice none 0 0, .slice none 0 0], .int .i64 1]) ?_ rfl ⟨⟨_, _, by rw [K.out.2], ?_⟩, by (repeat (first | exact Below.refl _ _ | refine Below.setCell ?_ (by first | (simp; done) | (simp; omega) | omega) _ | refine belowN ?_ _ | refine Below.drew ?_ | refine Below.alloc ?_ (by first | (simp; done) | (simp; omega) | omega) _ | refine Below.trans ?_ (Below.mono (by assumption) (by first | (simp; done) | (simp; omega) | omega))))⟩
    · simp [results, Try.results25, go_sem, hc1]
    · rw [K.out.1]
      exact ⟨w.heap.size, w.heap.size, w.heap.size, w.heap.size, Nat.le_refl _, by have := hb1.size; simp at this; simp; omega, Nat.le_refl _, by have := hb1.size; simp at this; simp; omega, .inl (Nat.le_refl _), .inl ⟨rfl, rfl⟩, .inl ⟨rfl, rfl⟩⟩
  · by_cases hin : 0 ≤ q ∧ q ≤ 3
    rotate_left
    · have K := Lib.hid (show ro1 S q = ⟨[], []⟩ ∧ ro2 S q = 2 by simp [ro1, ro2, hv, hin])
      have hor : q < 0 ∨ 4 ≤ q := by omega
      clear hin
      go_enter Try.func25, Try.ntmps25
      go_wp2_with fail
      refine (implValid_any vg vt S _ (HS.out.below (by (repeat (first | exact Below.refl _ _ | refine Below.setCell ?_ (by first | (simp; done) | (simp; omega) | omega) _ | refine belowN ?_ _ | refine Below.drew ?_ | refine Below.alloc ?_ (by first | (simp; done) | (simp; omega) | omega) _ | refine Below.trans ?_ (Below.mono (by assumption) (by first | (simp; done) | (simp; omega) | omega)))))) ok hs).mono ?_
      rintro e w1 ⟨rfl, hb1⟩
      obtain ⟨hc1, hf1, hl1, -⟩ := bfull hb1
      rcases hor with h | h
      all_goals
        go_wp2_with fail
        refine bodyPost_ret (v := .tuple #[.agg #[.slice none 0 0, .slice none 0 0], .int .i64 2]) ?_ rfl ⟨⟨_, _, by rw [K.out.2], ?_⟩, by (repeat (first | exact Below.refl _ _ | refine Below.setCell ?_ (by first | (simp; done) | (simp; omega) | omega) _ | refine belowN ?_ _ | refine Below.drew ?_ | refine Below.alloc ?_ (by first | (simp; done) | (simp; omega) | omega) _ | refine Below.trans ?_ (Below.mono (by assumption) (by first | (simp; done) | (simp; omega) | omega))))⟩
        · simp [results, Try.results25, go_sem, hc1]
        · rw [K.out.1]
          exact ⟨w.heap.size, w.heap.size, w.heap.size, w.heap.size, Nat.le_refl _, by have := hb1.size; simp at this; simp; omega, Nat.le_refl _, by have := hb1.size; simp at this; simp; omega, .inl (Nat.le_refl _), .inl ⟨rfl, rfl⟩, .inl ⟨rfl, rfl⟩⟩
    obtain ⟨n, rfl⟩ := Int.eq_ofNat_of_zero_le hin.1
    have hn : n < 4 := by omega
    have K := Lib.hid (show ro1 S (n : Int) = rotS S n ∧ ro2 S (n : Int) = 0 by simp [ro1, ro2, hv]; omega)
    have d1 : ¬ ((n : Int) < 0) := by omega
    have d2 : ¬ ((4 : Int) ≤ n) := by omega
    clear hin
    have V := Lib.hid (validB_iff.1 hv)
    go_enter Try.func25, Try.ntmps25
    go_wp2_with fail
    refine (implValid_any vg vt S _ (HS.out.below (by (repeat (first | exact Below.refl _ _ | refine Below.setCell ?_ (by first | (simp; done) | (simp; omega) | omega) _ | refine belowN ?_ _ | refine Below.drew ?_ | refine Below.alloc ?_ (by first | (simp; done) | (simp; omega) | omega) _ | refine Below.trans ?_ (Below.mono (by assumption) (by first | (simp; done) | (simp; omega) | omega)))))) ok hs).mono ?_
    rintro e w1 ⟨rfl, hb1⟩
    have B1 : Below w.heap.size w w1 := by (repeat (first | exact Below.refl _ _ | refine Below.setCell ?_ (by first | (simp; done) | (simp; omega) | omega) _ | refine belowN ?_ _ | refine Below.drew ?_ | refine Below.alloc ?_ (by first | (simp; done) | (simp; omega) | omega) _ | refine Below.trans ?_ (Below.mono (by assumption) (by first | (simp; done) | (simp; omega) | omega))))
    have T1 := Lib.hid (((Two.new w vg vt 35 rfl).alloc (.cells #[.slice none 0 0, .slice none 0 0] 35)).below hb1)
    have R1 := Lib.hid ((Two.new (w.alloc (.cells #[vg, vt] 35)) (.slice none 0 0) (.slice none 0 0) 35 (n := w.heap.size + 1) (by simp)).below hb1)
    have s1 : w.heap.size + 2 ≤ w1.heap.size := by have := hb1.size; simp at this; omega
    clear hb1
    obtain ⟨k0, k1, -, -⟩ := T1.out
    go_wp2_with fail
    refine (copyGlues_any vg S.gs _ (HS.out.g.below B1) hsol hgl).mono ?_
    rintro e w2 ⟨⟨ng, rfl, hng⟩, hb2⟩
    have B2 : Below w.heap.size w w2 := by (repeat (first | exact Below.refl _ _ | refine Below.setCell ?_ (by first | (simp; done) | (simp; omega) | omega) _ | refine belowN ?_ _ | refine Below.drew ?_ | refine Below.alloc ?_ (by first | (simp; done) | (simp; omega) | omega) _ | refine Below.trans ?_ (Below.mono (by assumption) (by first | (simp; done) | (simp; omega) | omega))))
    have T2 := Lib.hid (T1.out.below hb2)
    have R2 := Lib.hid (R1.out.below hb2)
    have s2 : w.heap.size + 1 < w2.heap.size := by have := hb2.size; omega
    have s2' : w.heap.size < w2.heap.size := by omega
    have G2 := Lib.hid hng
    obtain ⟨ga, gn, gc, rfl⟩ := hng.shape
    clear hb2 hng k0 k1
    obtain ⟨k0, k1, -, -⟩ := T2.out
    obtain ⟨sv, ⟨bo, bcap, hvt, hl2, hmx, -⟩, -⟩ := HS.out.t
    rw [hvt] at k1
    go_wp2_with fail
    have T3 : Two ((w2.alloc (.cells #[.slice ga gn gc, .slice none 0 0] 35))) w2.heap.size (.slice ga gn gc) (.slice none 0 0) := Two.new _ _ _ _ rfl
    go_loopw [28] (fun i wr => ∃ (k : Nat) (tv : Value), k ≤ S.ts.length ∧ i = .int .i64 k ∧ Two wr w2.heap.size (.slice ga gn gc) tv ∧ Built wr (w2.heap.size + 1) tv k (tN (rotTs S.ts n)) (tS (rotTs S.ts n)) ∧ Below w2.heap.size w2 wr) (fun i _ => S.ts.length - (intOf i).toNat)
    case atStart => exact ⟨0, _, by omega, rfl, T3, Built.nil _ _ _ _, by (repeat (first | exact Below.refl _ _ | refine Below.setCell ?_ (by first | (simp; done) | (simp; omega) | omega) _ | refine belowN ?_ _ | refine Below.drew ?_ | refine Below.alloc ?_ (by first | (simp; done) | (simp; omega) | omega) _ | refine Below.trans ?_ (Below.mono (by assumption) (by first | (simp; done) | (simp; omega) | omega))))⟩
    case round =>
      clear T3
      obtain ⟨k, tv, hk, rfl, hT, hB, hbw⟩ := hrel
      have BW : Below w.heap.size w wr := B2.trans (hbw.mono (by omega))
      by_cases hlt : k < S.ts.length
      · obtain ⟨b, off, cap, hvt2, hl3, hmx3, hc⟩ := tiles_open HS.out.t (by omega)
        obtain ⟨b2, o2, c, c0, c1, hc4, hcm, hcc⟩ := hc k hlt (V.out.sides hlt)
        have d0 := cell_below BW c0
        have d1 := cell_below BW c1
        have e0 := cell_below BW (hcc 0 (by omega))
        have e1 := cell_below BW (hcc 1 (by omega))
        have e2 := cell_below BW (hcc 2 (by omega))
        have e3 := cell_below BW (hcc 3 (by omega))
        have hv2 := hvt.symm.trans hvt2
        simp at hv2
        obtain ⟨rfl, rfl⟩ := hv2
        obtain ⟨m0, m1, -, mz⟩ := id hT
        have hlT := World.block_lt_of_cell? wr ⟨w2.heap.size, 0, none⟩ m0
        simp at e0
        unfold maxLen at hmx3 hcm
        clear hc c0 c1 hvt hvt2
        have HCC := Lib.hid hcc
        clear hcc
        go_wp2_with fail
        have hsd := V.out.sides hlt
        have HI : Ints wr (.slice (some ⟨b2, o2, none⟩) 4 c) (tS S.ts k) := ⟨_, c, by rw [hsd], by omega, by unfold maxLen; omega, fun _ => ⟨b2, o2, rfl, fun i j hi hj => by
          obtain rfl : j = 0 := by omega
          simpa using cell_below BW (HCC.out i (by omega))⟩⟩
        refine (sidesOf_any (tN S.ts k) _ (tS S.ts k) _ (HI.below (by (repeat (first | exact Below.refl _ _ | refine Below.setCell ?_ (by first | (simp; done) | (simp; omega) | omega) _ | refine belowN ?_ _ | refine Below.drew ?_ | refine Below.alloc ?_ (by first | (simp; done) | (simp; omega) | omega) _ | refine Below.trans ?_ (Below.mono (by assumption) (by first | (simp; done) | (simp; omega) | omega)))))) hsd).mono ?_
        rintro e w5 ⟨rfl, hb5⟩
        have q5 : Below wr.heap.size wr w5 := by (repeat (first | exact Below.refl _ _ | refine Below.setCell ?_ (by first | (simp; done) | (simp; omega) | omega) _ | refine belowN ?_ _ | refine Below.drew ?_ | refine Below.alloc ?_ (by first | (simp; done) | (simp; omega) | omega) _ | refine Below.trans ?_ (Below.mono (by assumption) (by first | (simp; done) | (simp; omega) | omega))))
        have f5 : w5.cell? ⟨wr.heap.size, 0, none⟩ = some (.string (tN S.ts k)) := cell_below hb5 (by simp [go_sem])
        have s5 : wr.heap.size < w5.heap.size := World.block_lt_of_cell? w5 ⟨wr.heap.size, 0, none⟩ f5
        clear hb5 hsd HI
        go_wp2_with fail
        refine (turned_any (tS S.ts k) n _ hn).mono ?_
        rintro e w6 ⟨rfl, hb6⟩
        have q6 : Below wr.heap.size wr w6 := q5.trans (hb6.mono (by omega))
        have f6 := cell_below hb6 f5
        have s6 : wr.heap.size < w6.heap.size := World.block_lt_of_cell? w6 ⟨wr.heap.size, 0, none⟩ f6
        clear hb6
        unfold arr4
        go_wp2_with fail
        have W0 : Below wr.heap.size wr (w6.alloc (.cells #[.int .i64 (iAt (rot (tS S.ts k) n) 0), .int .i64 (iAt (rot (tS S.ts k) n) 1), .int .i64 (iAt (rot (tS S.ts k) n) 2), .int .i64 (iAt (rot (tS S.ts k) n) 3)] 90)) := by (repeat (first | exact Below.refl _ _ | refine Below.setCell ?_ (by first | (simp; done) | (simp; omega) | omega) _ | refine belowN ?_ _ | refine Below.drew ?_ | refine Below.alloc ?_ (by first | (simp; done) | (simp; omega) | omega) _ | refine Below.trans ?_ (Below.mono (by assumption) (by first | (simp; done) | (simp; omega) | omega))))
        have f0 := cell_below W0 m1
        have f1 := akeep (o := .cells #[.int .i64 (iAt (rot (tS S.ts k) n) 0), .int .i64 (iAt (rot (tS S.ts k) n) 1), .int .i64 (iAt (rot (tS S.ts k) n) 2), .int .i64 (iAt (rot (tS S.ts k) n) 3)] 90) f6
        have I0' := ints4 w6 (iAt (rot (tS S.ts k) n) 0) (iAt (rot (tS S.ts k) n) 1) (iAt (rot (tS S.ts k) n) 2) (iAt (rot (tS S.ts k) n) 3) 90 rfl
        rw [rot4] at I0'
        have I0 := Lib.hid I0'
        clear I0'
        have HBA := Lib.hid (hB.keep W0)
        obtain ⟨xw, hxw⟩ := built_row hB
        have HOW := Lib.hid hxw
        clear hxw
        have hb2w : b2 < w.heap.size := World.block_lt_of_cell? w ⟨b2, o2 + 0, none⟩ (HCC.out 0 (by omega))
        have hlA : wr.heap.size < (w6.alloc (.cells #[.int .i64 (iAt (rot (tS S.ts k) n) 0), .int .i64 (iAt (rot (tS S.ts k) n) 1), .int .i64 (iAt (rot (tS S.ts k) n) 2), .int .i64 (iAt (rot (tS S.ts k) n) 3)] 90)).heap.size := by simp; omega
        have hl6 : w6.heap.size < (w6.alloc (.cells #[.int .i64 (iAt (rot (tS S.ts k) n) 0), .int .i64 (iAt (rot (tS S.ts k) n) 1), .int .i64 (iAt (rot (tS S.ts k) n) 2), .int .i64 (iAt (rot (tS S.ts k) n) 3)] 90)).heap.size := by simp
        have mzA : (w6.alloc (.cells #[.int .i64 (iAt (rot (tS S.ts k) n) 0), .int .i64 (iAt (rot (tS S.ts k) n) 1), .int .i64 (iAt (rot (tS S.ts k) n) 2), .int .i64 (iAt (rot (tS S.ts k) n) 3)] 90)).frozen? ⟨w2.heap.size, 1, none⟩ = false := (W0.frozen (p := ⟨w2.heap.size, 1, none⟩) hlT).trans mz
        have hlT2 : w2.heap.size < (w6.alloc (.cells #[.int .i64 (iAt (rot (tS S.ts k) n) 0), .int .i64 (iAt (rot (tS S.ts k) n) 1), .int .i64 (iAt (rot (tS S.ts k) n) 2), .int .i64 (iAt (rot (tS S.ts k) n) 3)] 90)).heap.size := by simp; omega
        have HbA := Lib.hid (hbw.trans (W0.mono hbw.size))
        have HT := Lib.hid (hT.below W0)
        clear m0 m1 mz d0 d1 e0 e1 e2 e3 hB W0 hT
        generalize hWA : w6.alloc (.cells #[.int .i64 (iAt (rot (tS S.ts k) n) 0), .int .i64 (iAt (rot (tS S.ts k) n) 1), .int .i64 (iAt (rot (tS S.ts k) n) 2), .int .i64 (iAt (rot (tS S.ts k) n) 3)] 90) = wA at *
        clear hWA
        obtain ⟨G, sv, hrow, hside, hdist, hinj⟩ := HBA.out
        have HROW := Lib.hid hrow
        clear hrow
        obtain ⟨i0, hi, hz0, hz1, hz2⟩ := info_parts info_tile
        have ng := own_block_ge HROW.out
        have n1 : some w2.heap.size ≠ tv.ownBlock := fun e => by have := ng _ e.symm; omega
        have n2 : some wr.heap.size ≠ tv.ownBlock := fun e => by have := own_block_lt HOW.out _ e.symm; omega
        have n3 : some b2 ≠ tv.ownBlock := fun e => by have := ng _ e.symm; omega
        clear ng
        have hzl : (rot (tS S.ts k) n).length = 4 := rfl
        generalize hzr : rot (tS S.ts k) n = zr at *
        have HZR := Lib.hid hzr
        have HZL := Lib.hid hzl
        clear hzr hzl q5 q6
        have HC := Lib.hid (makeTile_any (tN S.ts k) (.slice (some ⟨w6.heap.size, 0, none⟩) 4 4) zr wA.drew (Ints.drew I0.out) (by rw [HZL.out]; omega) (by rw [HZL.out]; omega))
        refine hide1 ?_
        go_region_held3 (fun w' => w'.cell? ⟨wr.heap.size, 0, none⟩ = some (.string (tN S.ts k))) ((((try go_split_ands); (try dsimp only); (repeat' apply And.intro)) <;> (repeat (first | with_reducible assumption | ((with_reducible refine gkeep hgrow4 ?_ ?_); rotate_left; with_reducible assumption) | ((with_reducible refine gfkeep hgrow4 ?_ ?_ ?_); rotate_left; (first | ((try dsimp only); omega) | (simp; done) | (simp; omega)); with_reducible assumption) | ((with_reducible refine afkeep ?_ ?_); rotate_left; (first | ((try dsimp only); omega) | (simp; done) | (simp; omega))) | (with_reducible refine dfkeep ?_) | ((with_reducible refine bfkeep hb3 ?_ ?_); rotate_left; (first | ((try dsimp only); omega) | (simp; done) | (simp; omega))) | ((with_reducible refine cnew0 ?_); simp; done) | ((with_reducible refine cnew1 ?_); simp; done) | (with_reducible refine akeep ?_) | (with_reducible refine dkeep ?_) | ((with_reducible refine skeep ?_ ?_); rotate_left; (first | ((try dsimp only); omega) | (simp; done) | (simp; omega))) | (with_reducible refine bkeep hb3 ?_)))))
          (first
            | (go_at_call 55; refine HC.out.mono ?_; rintro e w3 ⟨⟨mc, mb, mf, rfl, hmb, hml, hmm, hmr, hmz⟩, hb3⟩; have C3 := Lib.hid (show Below wA.heap.size wA w3 by (repeat (first | exact Below.refl _ _ | refine Below.setCell ?_ (by first | (simp; done) | (simp; omega) | omega) _ | refine belowN ?_ _ | refine Below.drew ?_ | refine Below.alloc ?_ (by first | (simp; done) | (simp; omega) | omega) _ | refine Below.trans ?_ (Below.mono (by assumption) (by first | (simp; done) | (simp; omega) | omega))))); have R3 := Lib.hid (ownsRow_keep HROW.out C3.out); have s3 : wA.heap.size ≤ w3.heap.size := C3.out.size; have s3' : w2.heap.size < w3.heap.size := Nat.lt_of_lt_of_le hlT2 s3; have q3 := cell_below C3.out f0; have z3 : w3.frozen? ⟨w2.heap.size, 1, none⟩ = false := (C3.out.frozen (p := ⟨w2.heap.size, 1, none⟩) (by dsimp only; omega)).trans mzA)
            | (refine step_append_lies _ (by rfl) _ _ _ (by rfl) (w2.heap.size + 1) 87 i0 _ 2 40 Try.underlying33 hi hz0 hz1 hz2 rfl (by omega) tv k (tRow (tN (rotTs S.ts n)) sv k) (by rfl) ((R3.out.alloc _).drew) ⟨w3.heap.size, 0, none⟩ 1 1 [.string (tN S.ts k), .slice (some ⟨mb, 0, none⟩) zr.length mc] (by rfl) (by rfl) (World.news_of_block (cs := #[.string (tN S.ts k), .slice (some ⟨mb, 0, none⟩) zr.length mc]) (t := 87) (fr := (0, 0)) (heap_alloc_new w3 _)) (by simp [Value.oneCell']) (by omega) (maxLen_of (by omega)) (by omega) (by simp; omega) (w3.heap.size + 1) (by simp) ?_; intro gg cap' w4 hown4 hgrow4 hat4 hlt4; have q4 := gkeep hgrow4 (dkeep (akeep q3)) n1; have z4 : w4.frozen? ⟨w2.heap.size, 1, none⟩ = false := (World.frozen?_of_block (hgrow4.block w2.heap.size (by simp; omega) n1)).trans ((World.frozen?_alloc_past _ w2.heap.size 1 (by omega)).trans z3)))
        all_goals
          go_wp2_with fail
          case roundEnd =>
            obtain ⟨r1, r2, r3⟩ := round_end (N := tN (rotTs S.ts n)) (Z := tS (rotTs S.ts n)) (s := tN S.ts k) (zs := zr) HT.out HbA.out hside hdist hinj HROW.out C3.out (OwnAt.made hml hmm hmr hmz) (by simp at hmb; omega) hmr.lt hown4 hgrow4 hat4 (rotTs_N S.ts n hlt) ((rotTs_S S.ts n hlt).trans HZR.out)
            exact ⟨⟨k + 1, _, by omega, by simp, r1, r2, r3⟩, by simp [intOf]; omega⟩
      · obtain rfl : k = S.ts.length := by omega
        obtain ⟨m0, m1, -, -⟩ := id hT
        have HG := Lib.hid (G2.out.keep (Within.of (lo := 0) (hi := 0) hbw) (.inr (Nat.zero_le _)))
        have HB := Lib.hid (show OwnTs wr (w2.heap.size + 1) wr.heap.size tv (rotS S n).ts by
          have := rotTs_len S.ts n
          exact Built.ts (ts := rotTs S.ts n) (by rw [this]; exact hB))
        have s3 : w2.heap.size < wr.heap.size := World.block_lt_of_cell? wr ⟨w2.heap.size, 0, none⟩ m0
        obtain ⟨e0, e1, z0, z1⟩ := R2.out.below hbw
        have z0' : wr.frozen? ⟨w.heap.size + 1, 0, none⟩ = false := z0
        have z1' : wr.frozen? ⟨w.heap.size + 1, 1, none⟩ = false := z1
        have e1' : (wr.setCell ⟨w.heap.size + 1, 0, none⟩ (.slice ga gn gc)).cell? ⟨w.heap.size + 1, 1, none⟩ = some (.slice none 0 0) := by simp [go_sem, e1]
        have z1'' : (wr.setCell ⟨w.heap.size + 1, 0, none⟩ (.slice ga gn gc)).frozen? ⟨w.heap.size + 1, 1, none⟩ = false := (World.frozen?_setCell ..).trans z1
        clear hT hB
        obtain ⟨ta, tn, tc, rfl⟩ : ∃ ta tn tc, tv = .slice ta tn tc := by
          obtain ⟨_, ⟨ta, tc, h, -⟩, -⟩ := HB.out.tiles
          exact ⟨ta, _, tc, h⟩
        go_wp2_with fail
        refine bodyPost_ret (v := .tuple #[.agg #[.slice ga gn gc, .slice ta tn tc], .int .i64 0]) ?_ rfl ⟨⟨_, _, by rw [K.out.2], ?_⟩, ?_⟩
        · simp [results, Try.results25, go_sem, e0, e1']
        · rw [K.out.1]
          have W1 : Within (w.heap.size + 1) (w.heap.size + 2) wr ((wr.setCell ⟨w.heap.size + 1, 0, none⟩ (.slice ga gn gc)).setCell ⟨w.heap.size + 1, 1, none⟩ (.slice ta tn tc)) :=
            (Within.set (w.heap.size + 1) (w.heap.size + 2) wr (a := ⟨w.heap.size + 1, 0, none⟩) (Nat.le_refl _) (Nat.lt_succ_self _) (.slice ga gn gc)).trans (Within.set (w.heap.size + 1) (w.heap.size + 2) _ (a := ⟨w.heap.size + 1, 1, none⟩) (Nat.le_refl _) (Nat.lt_succ_self _) (.slice ta tn tc))
          exact ⟨w1.heap.size, w2.heap.size, w2.heap.size + 1, wr.heap.size, by omega, by simp; omega, by omega, by simp, .inl (by omega), HG.out.keep W1 (.inr (by omega)), HB.out.keep W1 (.inr (by omega))⟩
        · have BW2 := B2.trans (hbw.mono (Nat.le_of_lt s2'))
          (repeat (first | exact Below.refl _ _ | refine Below.setCell ?_ (by first | (simp; done) | (simp; omega) | omega) _ | refine belowN ?_ _ | refine Below.drew ?_ | refine Below.alloc ?_ (by first | (simp; done) | (simp; omega) | omega) _ | refine Below.trans ?_ (Below.mono (by assumption) (by first | (simp; done) | (simp; omega) | omega))))

end Go.Proofs.Ytcaidemlhgepfab
