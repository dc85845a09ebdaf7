/-
  The bond of two tiles of a valid set, and BondOf, the model's and the program's. Conditions: each theorem's own.
-/
import Derived.Test.YtnofbeeihdgmdaaDoorBonds
namespace Go.Proofs.YtnofbeeihdgmdaaDoor
open Go.RowKit

theorem oppN {m o : Nat} (hm : m < 4) (ho : o = (m + 2) % 4) : oppZ (m : Int) = (o : Int) := by unfold oppZ; omega
theorem specOppN_any (m o : Nat) (hm : m < 4) (ho : o = (m + 2) % 4) (w : World) : Calls Tryd.prog 103 #[.int .i64 (m : Int)] w fun e w' => e = .returned (.int .i64 (o : Int)) ∧ w = w' := by
  rw [← oppN hm ho]
  exact specOpp_any _ w
theorem implOppN_any (m o : Nat) (hm : m < 4) (ho : o = (m + 2) % 4) (w : World) : Calls Tryd.prog 94 #[.int .i64 (m : Int)] w fun e w' => e = .returned (.int .i64 (o : Int)) ∧ w = w' := by
  rw [← oppN hm ho]
  exact implOpp_any _ w

set_option maxHeartbeats 800000 in
theorem l02Bond_any (p : Nat) (vg vt : Value) (S : Set_) (a m b o : Nat) (w : World) (hp : At w p vg vt) (hS : SetIn w vg vt S) (hs : S.small) (V : Valid S) (ha : a < S.ts.length) (hm : m < 4) (hb : b < S.ts.length) (ho : o = (m + 2) % 4) :
    Calls Tryd.prog 73 #[.pointer (some ⟨p, 0, none⟩), .int .i64 (a : Int), .int .i64 (m : Int), .int .i64 (b : Int)] w fun e w' => e = .returned (.int .i64 (bondZ S a m b o)) ∧ Below w.heap.size w w' := by
  have hgl := hs.gl
  have ho4 : o < 4 := by omega
  have HS := Lib.hid hS
  have HP := Lib.hid hp
  obtain ⟨b1, o1, cap, rfl, hl, hmx, hc⟩ := tiles_open hS.t (by omega)
  obtain ⟨b2, o2, c2, -, x1, hc2, hcm2, x2⟩ := hc a ha (V.sides ha)
  obtain ⟨b3, o3, c3, -, y1, hc3, hcm3, y2⟩ := hc b hb (V.sides hb)
  have x3 := x2 m hm
  have y3 := y2 o ho4
  have hr := V.side ha hm
  have q0 := hp.c1
  unfold maxLen at hmx hcm2 hcm3
  have HO := Lib.hid ho
  clear hc x2 y2 hS hp V ho
  by_cases he : sideZ S a m = sideZ S b o
  · have K : Hid (bondZ S a m b o = strZ S.gs (sideZ S a m)) := by unfold bondZ; rw [if_pos he]; rfl
    have y3' : w.cell? ⟨b3, o3 + o, none⟩ = some (.int .i64 (sideZ S a m)) := by rw [he]; exact y3
    have x3' : w.cell? ⟨b2, o2 + m, none⟩ = some (.int .i64 (sideZ S a m)) := x3
    clear x3 y3 he
    go_enter Tryd.func73, Tryd.ntmps73
    go_wp2_with fail
    go_quiet ((go_at_call 103; exact quietL (specOppN_any m o hm HO.out _)))
    go_wp2_with (go_at_call 104; refine (l02Strength_any p vg _ S.gs (sideZ S a m) _ (HP.out.below (by (repeat (first | exact Below.refl _ _ | refine Below.setCell ?_ (by first | (simp; done) | (simp; omega) | omega) _ | refine belowN ?_ _ | refine Below.drew ?_ | refine Below.alloc ?_ (by first | (simp; done) | (simp; omega) | omega) _ | refine Below.trans ?_ (Below.mono (by assumption) (by first | (simp; done) | (simp; omega) | omega)))))) (HS.out.g.below (by (repeat (first | exact Below.refl _ _ | refine Below.setCell ?_ (by first | (simp; done) | (simp; omega) | omega) _ | refine belowN ?_ _ | refine Below.drew ?_ | refine Below.alloc ?_ (by first | (simp; done) | (simp; omega) | omega) _ | refine Below.trans ?_ (Below.mono (by assumption) (by first | (simp; done) | (simp; omega) | omega)))))) hgl hr.1 hr.2).mono ?_; rintro e w' ⟨rfl, rfl⟩)
    go_ret
    exact ⟨ret_i64 (by rw [K.out]), by (repeat (first | exact Below.refl _ _ | refine Below.setCell ?_ (by first | (simp; done) | (simp; omega) | omega) _ | refine belowN ?_ _ | refine Below.drew ?_ | refine Below.alloc ?_ (by first | (simp; done) | (simp; omega) | omega) _ | refine Below.trans ?_ (Below.mono (by assumption) (by first | (simp; done) | (simp; omega) | omega))))⟩
  · have K : Hid (bondZ S a m b o = 0) := by unfold bondZ; rw [if_neg he]; rfl
    have bn : (sideZ S a m != sideZ S b o) = true := by simpa using he
    have y3' : w.cell? ⟨b3, o3 + o, none⟩ = some (.int .i64 (sideZ S b o)) := y3
    have x3' : w.cell? ⟨b2, o2 + m, none⟩ = some (.int .i64 (sideZ S a m)) := x3
    clear x3 y3 he
    go_enter Tryd.func73, Tryd.ntmps73
    go_wp2_with fail
    go_quiet ((go_at_call 103; exact quietL (specOppN_any m o hm HO.out _)))
    go_wp2_with fail
    go_ret
    exact ⟨ret_i64 (by rw [K.out]), by (repeat (first | exact Below.refl _ _ | refine Below.setCell ?_ (by first | (simp; done) | (simp; omega) | omega) _ | refine belowN ?_ _ | refine Below.drew ?_ | refine Below.alloc ?_ (by first | (simp; done) | (simp; omega) | omega) _ | refine Below.trans ?_ (Below.mono (by assumption) (by first | (simp; done) | (simp; omega) | omega))))⟩

set_option maxHeartbeats 800000 in
theorem bond_any (vg vt : Value) (S : Set_) (a m b o : Nat) (w : World) (hS : SetIn w vg vt S) (hs : S.small) (V : Valid S) (ha : a < S.ts.length) (hm : m < 4) (hb : b < S.ts.length) (ho : o = (m + 2) % 4) :
    Calls Tryd.prog 82 #[.agg #[vg, vt], .int .i64 (a : Int), .int .i64 (m : Int), .int .i64 (b : Int)] w fun e w' => e = .returned (.int .i64 (bondZ S a m b o)) ∧ Below w.heap.size w w' := by
  have hgl := hs.gl
  have ho4 : o < 4 := by omega
  have HS := Lib.hid hS
  have hr := V.side ha hm
  have H4a := Lib.hid (V.sides ha)
  have H4b := Lib.hid (V.sides hb)
  have HO := Lib.hid ho
  have hbe : Hid ((bondZ S a m b o = if sideZ S a m = sideZ S b o then strZ S.gs (sideZ S a m) else 0)) := rfl
  clear hS V ho
  by_cases he : sideZ S a m = sideZ S b o
  · have K : Hid (bondZ S a m b o = strZ S.gs (sideZ S a m)) := by rw [hbe.out, if_pos he]; rfl
    have HE := Lib.hid he
    clear hbe he
    go_enter Tryd.func82, Tryd.ntmps82
    go_wp2_with fail
    refine (glueAt_any vg vt S a m _ (HS.out.t.below (by (repeat (first | exact Below.refl _ _ | refine Below.setCell ?_ (by first | (simp; done) | (simp; omega) | omega) _ | refine belowN ?_ _ | refine Below.drew ?_ | refine Below.alloc ?_ (by first | (simp; done) | (simp; omega) | omega) _ | refine Below.trans ?_ (Below.mono (by assumption) (by first | (simp; done) | (simp; omega) | omega)))))) ha hm H4a.out).mono ?_
    rintro e w1 ⟨rfl, hb1⟩
    have B1 : Below w.heap.size w w1 := by (repeat (first | exact Below.refl _ _ | refine Below.setCell ?_ (by first | (simp; done) | (simp; omega) | omega) _ | refine belowN ?_ _ | refine Below.drew ?_ | refine Below.alloc ?_ (by first | (simp; done) | (simp; omega) | omega) _ | refine Below.trans ?_ (Below.mono (by assumption) (by first | (simp; done) | (simp; omega) | omega))))
    have s1 := B1.size
    have A1 := Lib.hid ((At.new w vg vt 38).below hb1)
    have S1 := Lib.hid (HS.out.below B1)
    have hlt := A1.out.lt
    clear hb1
    obtain ⟨q0, q1⟩ := A1.out
    go_wp2_with fail
    go_region_held3 (fun w' => w'.cell? ⟨w.heap.size, 0, none⟩ = some vg ∧ w'.cell? ⟨w.heap.size, 1, none⟩ = some vt) ((((try go_split_ands); (try dsimp only); (repeat' apply And.intro)) <;> (repeat (first | with_reducible assumption | ((with_reducible refine cnew0 ?_); simp; done) | ((with_reducible refine cnew1 ?_); simp; done) | (with_reducible refine akeep ?_) | (with_reducible refine dkeep ?_) | ((with_reducible refine skeep ?_ ?_); rotate_left; (first | ((try dsimp only); omega) | (simp; done) | (simp; omega))) | (with_reducible refine bkeep hb3 ?_)))))
      (first
        | (go_at_call 94; refine (implOppN_any m o hm HO.out _).mono ?_; rintro e w' ⟨rfl, rfl⟩)
        | (go_at_call 93; refine (glueAt_any vg vt S b o _ (S1.out.t.below (by (repeat (first | exact Below.refl _ _ | refine Below.setCell ?_ (by first | (simp; done) | (simp; omega) | omega) _ | refine belowN ?_ _ | refine Below.drew ?_ | refine Below.alloc ?_ (by first | (simp; done) | (simp; omega) | omega) _ | refine Below.trans ?_ (Below.mono (by assumption) (by first | (simp; done) | (simp; omega) | omega)))))) hb ho4 H4b.out).mono ?_; rintro e w3 ⟨rfl, hb3⟩; rw [← HE.out]))
    have hq := bcell hb3
    have s3 : w1.heap.size ≤ w3.heap.size := hb3.size
    have k0 := hq w.heap.size 0 (by simp; omega)
    have k1 := hq w.heap.size 1 (by simp; omega)
    simp [q0, q1] at k0 k1
    clear hq
    go_wp2_with fail
    refine (strength_any vg vt S.gs (sideZ S a m) _ (S1.out.g.below (by (repeat (first | exact Below.refl _ _ | refine Below.setCell ?_ (by first | (simp; done) | (simp; omega) | omega) _ | refine belowN ?_ _ | refine Below.drew ?_ | refine Below.alloc ?_ (by first | (simp; done) | (simp; omega) | omega) _ | refine Below.trans ?_ (Below.mono (by assumption) (by first | (simp; done) | (simp; omega) | omega)))))) hgl hr.1 hr.2).mono ?_
    rintro e w4 ⟨rfl, hb4⟩
    go_wp2_with fail
    go_ret
    exact ⟨ret_i64 (by rw [K.out]), by (repeat (first | exact Below.refl _ _ | refine Below.setCell ?_ (by first | (simp; done) | (simp; omega) | omega) _ | refine belowN ?_ _ | refine Below.drew ?_ | refine Below.alloc ?_ (by first | (simp; done) | (simp; omega) | omega) _ | refine Below.trans ?_ (Below.mono (by assumption) (by first | (simp; done) | (simp; omega) | omega))))⟩
  · have K : Hid (bondZ S a m b o = 0) := by rw [hbe.out, if_neg he]; rfl
    have bn : (sideZ S a m != sideZ S b o) = true := by simpa using he
    clear hbe he
    go_enter Tryd.func82, Tryd.ntmps82
    go_wp2_with fail
    refine (glueAt_any vg vt S a m _ (HS.out.t.below (by (repeat (first | exact Below.refl _ _ | refine Below.setCell ?_ (by first | (simp; done) | (simp; omega) | omega) _ | refine belowN ?_ _ | refine Below.drew ?_ | refine Below.alloc ?_ (by first | (simp; done) | (simp; omega) | omega) _ | refine Below.trans ?_ (Below.mono (by assumption) (by first | (simp; done) | (simp; omega) | omega)))))) ha hm H4a.out).mono ?_
    rintro e w1 ⟨rfl, hb1⟩
    have B1 : Below w.heap.size w w1 := by (repeat (first | exact Below.refl _ _ | refine Below.setCell ?_ (by first | (simp; done) | (simp; omega) | omega) _ | refine belowN ?_ _ | refine Below.drew ?_ | refine Below.alloc ?_ (by first | (simp; done) | (simp; omega) | omega) _ | refine Below.trans ?_ (Below.mono (by assumption) (by first | (simp; done) | (simp; omega) | omega))))
    have s1 := B1.size
    have A1 := Lib.hid ((At.new w vg vt 38).below hb1)
    have S1 := Lib.hid (HS.out.below B1)
    clear hb1
    obtain ⟨q0, q1⟩ := A1.out
    go_wp2_with fail
    go_region_held3 (fun w' => w'.cell? ⟨w.heap.size, 0, none⟩ = some vg ∧ w'.cell? ⟨w.heap.size, 1, none⟩ = some vt) ((((try go_split_ands); (try dsimp only); (repeat' apply And.intro)) <;> (repeat (first | with_reducible assumption | ((with_reducible refine cnew0 ?_); simp; done) | ((with_reducible refine cnew1 ?_); simp; done) | (with_reducible refine akeep ?_) | (with_reducible refine dkeep ?_) | ((with_reducible refine skeep ?_ ?_); rotate_left; (first | ((try dsimp only); omega) | (simp; done) | (simp; omega))) | (with_reducible refine bkeep hb3 ?_)))))
      (first
        | (go_at_call 94; refine (implOppN_any m o hm HO.out _).mono ?_; rintro e w' ⟨rfl, rfl⟩)
        | (go_at_call 93; refine (glueAt_any vg vt S b o _ (S1.out.t.below (by (repeat (first | exact Below.refl _ _ | refine Below.setCell ?_ (by first | (simp; done) | (simp; omega) | omega) _ | refine belowN ?_ _ | refine Below.drew ?_ | refine Below.alloc ?_ (by first | (simp; done) | (simp; omega) | omega) _ | refine Below.trans ?_ (Below.mono (by assumption) (by first | (simp; done) | (simp; omega) | omega)))))) hb ho4 H4b.out).mono ?_; rintro e w3 ⟨rfl, hb3⟩))
    go_wp2_with fail
    go_ret
    exact ⟨ret_i64 (by rw [K.out]), by (repeat (first | exact Below.refl _ _ | refine Below.setCell ?_ (by first | (simp; done) | (simp; omega) | omega) _ | refine belowN ?_ _ | refine Below.drew ?_ | refine Below.alloc ?_ (by first | (simp; done) | (simp; omega) | omega) _ | refine Below.trans ?_ (Below.mono (by assumption) (by first | (simp; done) | (simp; omega) | omega))))⟩

/-- BondOf: the bond and the code. -/
noncomputable def bo1 (S : Set_) (a d b : Int) : Int := if validB S = true ∧ (inB a 0 ((S.ts.length : Int) - 1) = true ∧ inB d 0 3 = true ∧ inB b 0 ((S.ts.length : Int) - 1) = true) then bondZ S a.toNat d.toNat b.toNat ((d.toNat + 2) % 4) else 0
noncomputable def bo2 (S : Set_) (a d b : Int) : Int := if validB S = true then (if inB a 0 ((S.ts.length : Int) - 1) = true ∧ inB d 0 3 = true ∧ inB b 0 ((S.ts.length : Int) - 1) = true then 0 else 2) else 1
theorem bo_no {S : Set_} (h : validB S = false) (a d b : Int) : bo1 S a d b = 0 ∧ bo2 S a d b = 1 := by simp [bo1, bo2, h]
theorem bo_out {S : Set_} (h : validB S = true) {a d b : Int} (h2 : ¬ (inB a 0 ((S.ts.length : Int) - 1) = true ∧ inB d 0 3 = true ∧ inB b 0 ((S.ts.length : Int) - 1) = true)) : bo1 S a d b = 0 ∧ bo2 S a d b = 2 :=
  ⟨by unfold bo1; rw [if_neg (fun x => h2 x.2)], by unfold bo2; rw [if_pos h, if_neg h2]⟩
theorem bo_yes {S : Set_} (h : validB S = true) {a d b : Int} (h2 : inB a 0 ((S.ts.length : Int) - 1) = true ∧ inB d 0 3 = true ∧ inB b 0 ((S.ts.length : Int) - 1) = true) : bo1 S a d b = bondZ S a.toNat d.toNat b.toNat ((d.toNat + 2) % 4) ∧ bo2 S a d b = 0 :=
  ⟨by unfold bo1; rw [if_pos ⟨h, h2⟩], by unfold bo2; rw [if_pos h, if_pos h2]⟩

end Go.Proofs.YtnofbeeihdgmdaaDoor
