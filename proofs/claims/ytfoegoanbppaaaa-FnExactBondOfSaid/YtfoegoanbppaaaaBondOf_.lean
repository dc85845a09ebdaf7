/-
  The bond of two tiles of a valid set, and BondOf, the model's and the program's. Conditions: each theorem's own.
-/
import Derived.Test.YtfoegoanbppaaaaBonds
namespace Go.Proofs.Ytfoegoanbppaaaa
open Go.RowKit

theorem oppN {m o : Nat} (hm : m < 4) (ho : o = (m + 2) % 4) : oppZ (m : Int) = (o : Int) := by unfold oppZ; omega
theorem specOppN_any (m o : Nat) (hm : m < 4) (ho : o = (m + 2) % 4) (w : World) : Calls Try.prog 91 #[.int .i64 (m : Int)] w fun e w' => e = .returned (.int .i64 (o : Int)) ∧ w = w' := by
  rw [← oppN hm ho]
  exact specOpp_any _ w
theorem implOppN_any (m o : Nat) (hm : m < 4) (ho : o = (m + 2) % 4) (w : World) : Calls Try.prog 92 #[.int .i64 (m : Int)] w fun e w' => e = .returned (.int .i64 (o : Int)) ∧ w = w' := by
  rw [← oppN hm ho]
  exact implOpp_any _ w

set_option maxHeartbeats 800000 in
theorem l02Bond_any (p : Nat) (vg vt : Value) (S : Set_) (a m b o : Nat) (w : World) (hp : At w p vg vt) (hS : SetIn w vg vt S) (hs : S.small) (V : Valid S) (ha : a < S.ts.length) (hm : m < 4) (hb : b < S.ts.length) (ho : o = (m + 2) % 4) :
    Calls Try.prog 72 #[.pointer (some ⟨p, 0, none⟩), .int .i64 (a : Int), .int .i64 (m : Int), .int .i64 (b : Int)] w fun e w' => e = .returned (.int .i64 (bondZ S a m b o)) ∧ Below w.heap.size w w' := by
  have hgl := hs.gl
  have ho4 : o < 4 := by omega
  have HS := Lib.hid hS
  have HP := Lib.hid hp
  obtain ⟨b1, o1, cap, rfl, hl, hmx, hc⟩ := tiles_open hS.t (by omega)
  obtain ⟨b2, o2, c2, -, x1, hc2, hcm2, x2⟩ := hc a ha (V.sides ha)
  obtain ⟨b3, o3, c3, -, y1, hc3, hcm3, y2⟩ := hc b hb (V.sides hb)
  have x3 := x2 m hm
  have y3 := y2 o ho4
  have hr := V.side ha hm
  have q0 := hp.c1
  unfold maxLen at hmx hcm2 hcm3
  have HO := Lib.hid ho
  clear hc x2 y2 hS hp V ho
  by_cases he : sideZ S a m = sideZ S b o
  · have K : Hid (bondZ S a m b o = strZ S.gs (sideZ S a m)) := by unfold bondZ; rw [if_pos he]; rfl
    have y3' : w.cell? ⟨b3, o3 + o, none⟩ = some (.int .i64 (sideZ S a m)) := by rw [he]; exact y3
    have x3' : w.cell? ⟨b2, o2 + m, none⟩ = some (.int .i64 (sideZ S a m)) := x3
    clear x3 y3 he
    go_enter Try.func72, Try.ntmps72
    go_wp2_with fail
    go_quiet ((go_at_call 91; exact quietL (specOppN_any m o hm HO.out _)))
    go_wp2_with (go_at_call 67; refine (l02Strength_any p vg _ S.gs (sideZ S a m) _ (HP.out.below (by (repeat (first | exact Below.refl _ _ | refine Below.setCell ?_ (by first | (simp; done) | (simp; omega) | omega) _ | refine belowN ?_ _ | refine Below.drew ?_ | refine Below.alloc ?_ (by first | (simp; done) | (simp; omega) | omega) _ | refine Below.trans ?_ (Below.mono (by assumption) (by first | (simp; done) | (simp; omega) | omega)))))) (HS.out.g.below (by (repeat (first | exact Below.refl _ _ | refine Below.setCell ?_ (by first | (simp; done) | (simp; omega) | omega) _ | refine belowN ?_ _ | refine Below.drew ?_ | refine Below.alloc ?_ (by first | (simp; done) | (simp; omega) | omega) _ | refine Below.trans ?_ (Below.mono (by assumption) (by first | (simp; done) | (simp; omega) | omega)))))) hgl hr.1 hr.2).mono ?_; rintro e w' ⟨rfl, rfl⟩)
    go_ret
    exact ⟨ret_i64 (by rw [K.out]), by (repeat (first | exact Below.refl _ _ | refine Below.setCell ?_ (by first | (simp; done) | (simp; omega) | omega) _ | refine belowN ?_ _ | refine Below.drew ?_ | refine Below.alloc ?_ (by first | (simp; done) | (simp; omega) | omega) _ | refine Below.trans ?_ (Below.mono (by assumption) (by first | (simp; done) | (simp; omega) | omega))))⟩
  · have K : Hid (bondZ S a m b o = 0) := by unfold bondZ; rw [if_neg he]; rfl
    have bn : (sideZ S a m != sideZ S b o) = true := by simpa using he
    have y3' : w.cell? ⟨b3, o3 + o, none⟩ = some (.int .i64 (sideZ S b o)) := y3
    have x3' : w.cell? ⟨b2, o2 + m, none⟩ = some (.int .i64 (sideZ S a m)) := x3
    clear x3 y3 he
    go_enter Try.func72, Try.ntmps72
    go_wp2_with fail
    go_quiet ((go_at_call 91; exact quietL (specOppN_any m o hm HO.out _)))
    go_wp2_with fail
    go_ret
    exact ⟨ret_i64 (by rw [K.out]), by (repeat (first | exact Below.refl _ _ | refine Below.setCell ?_ (by first | (simp; done) | (simp; omega) | omega) _ | refine belowN ?_ _ | refine Below.drew ?_ | refine Below.alloc ?_ (by first | (simp; done) | (simp; omega) | omega) _ | refine Below.trans ?_ (Below.mono (by assumption) (by first | (simp; done) | (simp; omega) | omega))))⟩

set_option maxHeartbeats 800000 in
theorem bond_any (vg vt : Value) (S : Set_) (a m b o : Nat) (w : World) (hS : SetIn w vg vt S) (hs : S.small) (V : Valid S) (ha : a < S.ts.length) (hm : m < 4) (hb : b < S.ts.length) (ho : o = (m + 2) % 4) :
    Calls Try.prog 73 #[.agg #[vg, vt], .int .i64 (a : Int), .int .i64 (m : Int), .int .i64 (b : Int)] w fun e w' => e = .returned (.int .i64 (bondZ S a m b o)) ∧ Below w.heap.size w w' := by
  have hgl := hs.gl
  have ho4 : o < 4 := by omega
  have HS := Lib.hid hS
  have hr := V.side ha hm
  have H4a := Lib.hid (V.sides ha)
  have H4b := Lib.hid (V.sides hb)
  have HO := Lib.hid ho
  have hbe : Hid ((bondZ S a m b o = if sideZ S a m = sideZ S b o then strZ S.gs (sideZ S a m) else 0)) := rfl
  clear hS V ho
  by_cases he : sideZ S a m = sideZ S b o
  · have K : Hid (bondZ S a m b o = strZ S.gs (sideZ S a m)) := by rw [hbe.out, if_pos he]; rfl
    have HE := Lib.hid he
    clear hbe he
    go_enter Try.func73, Try.ntmps73
    go_wp2_with fail
    refine (glueAt_any vg vt S a m _ (HS.out.t.below (by (repeat (first | exact Below.refl _ _ | refine Below.setCell ?_ (by first | (simp; done) | (simp; omega) | omega) _ | refine belowN ?_ _ | refine Below.drew ?_ | refine Below.alloc ?_ (by first | (simp; done) | (simp; omega) | omega) _ | refine Below.trans ?_ (Below.mono (by assumption) (by first | (simp; done) | (simp; omega) | omega)))))) ha hm H4a.out).mono ?_
    rintro e w1 ⟨rfl, hb1⟩
    have B1 : Below w.heap.size w w1 := by (repeat (first | exact Below.refl _ _ | refine Below.setCell ?_ (by first | (simp; done) | (simp; omega) | omega) _ | refine belowN ?_ _ | refine Below.drew ?_ | refine Below.alloc ?_ (by first | (simp; done) | (simp; omega) | omega) _ | refine Below.trans ?_ (Below.mono (by assumption) (by first | (simp; done) | (simp; omega) | omega))))
    have s1 := B1.size
    have A1 := Lib.hid ((At.new w vg vt 31).below hb1)
    have S1 := Lib.hid (HS.out.below B1)
    have hlt := A1.out.lt
    clear hb1
    obtain ⟨q0, q1⟩ := A1.out
    go_wp2_with fail
    go_region_held3 (fun w' => w'.cell? ⟨w.heap.size, 0, none⟩ = some vg ∧ w'.cell? ⟨w.heap.size, 1, none⟩ = some vt) ((((try go_split_ands); (try dsimp only); (repeat' apply And.intro)) <;> (repeat (first | with_reducible assumption | ((with_reducible refine cnew0 ?_); simp; done) | ((with_reducible refine cnew1 ?_); simp; done) | (with_reducible refine akeep ?_) | (with_reducible refine dkeep ?_) | ((with_reducible refine skeep ?_ ?_); rotate_left; (first | ((try dsimp only); omega) | (simp; done) | (simp; omega))) | (with_reducible refine bkeep hb3 ?_)))))
      (first
        | (go_at_call 92; refine (implOppN_any m o hm HO.out _).mono ?_; rintro e w' ⟨rfl, rfl⟩)
        | (go_at_call 71; refine (glueAt_any vg vt S b o _ (S1.out.t.below (by (repeat (first | exact Below.refl _ _ | refine Below.setCell ?_ (by first | (simp; done) | (simp; omega) | omega) _ | refine belowN ?_ _ | refine Below.drew ?_ | refine Below.alloc ?_ (by first | (simp; done) | (simp; omega) | omega) _ | refine Below.trans ?_ (Below.mono (by assumption) (by first | (simp; done) | (simp; omega) | omega)))))) hb ho4 H4b.out).mono ?_; rintro e w3 ⟨rfl, hb3⟩; rw [← HE.out]))
    have hq := bcell hb3
    have s3 : w1.heap.size ≤ w3.heap.size := hb3.size
    have k0 := hq w.heap.size 0 (by simp; omega)
    have k1 := hq w.heap.size 1 (by simp; omega)
    simp [q0, q1] at k0 k1
    clear hq
    go_wp2_with fail
    refine (strength_any vg vt S.gs (sideZ S a m) _ (S1.out.g.below (by (repeat (first | exact Below.refl _ _ | refine Below.setCell ?_ (by first | (simp; done) | (simp; omega) | omega) _ | refine belowN ?_ _ | refine Below.drew ?_ | refine Below.alloc ?_ (by first | (simp; done) | (simp; omega) | omega) _ | refine Below.trans ?_ (Below.mono (by assumption) (by first | (simp; done) | (simp; omega) | omega)))))) hgl hr.1 hr.2).mono ?_
    rintro e w4 ⟨rfl, hb4⟩
    go_wp2_with fail
    go_ret
    exact ⟨ret_i64 (by rw [K.out]), by (repeat (first | exact Below.refl _ _ | refine Below.setCell ?_ (by first | (simp; done) | (simp; omega) | omega) _ | refine belowN ?_ _ | refine Below.drew ?_ | refine Below.alloc ?_ (by first | (simp; done) | (simp; omega) | omega) _ | refine Below.trans ?_ (Below.mono (by assumption) (by first | (simp; done) | (simp; omega) | omega))))⟩
  · have K : Hid (bondZ S a m b o = 0) := by rw [hbe.out, if_neg he]; rfl
    have bn : (sideZ S a m != sideZ S b o) = true := by simpa using he
    clear hbe he
    go_enter Try.func73, Try.ntmps73
    go_wp2_with fail
    refine (glueAt_any vg vt S a m _ (HS.out.t.below (by (repeat (first | exact Below.refl _ _ | refine Below.setCell ?_ (by first | (simp; done) | (simp; omega) | omega) _ | refine belowN ?_ _ | refine Below.drew ?_ | refine Below.alloc ?_ (by first | (simp; done) | (simp; omega) | omega) _ | refine Below.trans ?_ (Below.mono (by assumption) (by first | (simp; done) | (simp; omega) | omega)))))) ha hm H4a.out).mono ?_
    rintro e w1 ⟨rfl, hb1⟩
    have B1 : Below w.heap.size w w1 := by (repeat (first | exact Below.refl _ _ | refine Below.setCell ?_ (by first | (simp; done) | (simp; omega) | omega) _ | refine belowN ?_ _ | refine Below.drew ?_ | refine Below.alloc ?_ (by first | (simp; done) | (simp; omega) | omega) _ | refine Below.trans ?_ (Below.mono (by assumption) (by first | (simp; done) | (simp; omega) | omega))))
    have s1 := B1.size
    have A1 := Lib.hid ((At.new w vg vt 31).below hb1)
    have S1 := Lib.hid (HS.out.below B1)
    clear hb1
    obtain ⟨q0, q1⟩ := A1.out
    go_wp2_with fail
    go_region_held3 (fun w' => w'.cell? ⟨w.heap.size, 0, none⟩ = some vg ∧ w'.cell? ⟨w.heap.size, 1, none⟩ = some vt) ((((try go_split_ands); (try dsimp only); (repeat' apply And.intro)) <;> (repeat (first | with_reducible assumption | ((with_reducible refine cnew0 ?_); simp; done) | ((with_reducible refine cnew1 ?_); simp; done) | (with_reducible refine akeep ?_) | (with_reducible refine dkeep ?_) | ((with_reducible refine skeep ?_ ?_); rotate_left; (first | ((try dsimp only); omega) | (simp; done) | (simp; omega))) | (with_reducible refine bkeep hb3 ?_)))))
      (first
        | (go_at_call 92; refine (implOppN_any m o hm HO.out _).mono ?_; rintro e w' ⟨rfl, rfl⟩)
        | (go_at_call 71; refine (glueAt_any vg vt S b o _ (S1.out.t.below (by (repeat (first | exact Below.refl _ _ | refine Below.setCell ?_ (by first | (simp; done) | (simp; omega) | omega) _ | refine belowN ?_ _ | refine Below.drew ?_ | refine Below.alloc ?_ (by first | (simp; done) | (simp; omega) | omega) _ | refine Below.trans ?_ (Below.mono (by assumption) (by first | (simp; done) | (simp; omega) | omega)))))) hb ho4 H4b.out).mono ?_; rintro e w3 ⟨rfl, hb3⟩))
    go_wp2_with fail
    go_ret
    exact ⟨ret_i64 (by rw [K.out]), by (repeat (first | exact Below.refl _ _ | refine Below.setCell ?_ (by first | (simp; done) | (simp; omega) | omega) _ | refine belowN ?_ _ | refine Below.drew ?_ | refine Below.alloc ?_ (by first | (simp; done) | (simp; omega) | omega) _ | refine Below.trans ?_ (Below.mono (by assumption) (by first | (simp; done) | (simp; omega) | omega))))⟩

/-- BondOf: the bond and the code. -/
noncomputable def bo1 (S : Set_) (a d b : Int) : Int := if validB S = true ∧ (inB a 0 ((S.ts.length : Int) - 1) = true ∧ inB d 0 3 = true ∧ inB b 0 ((S.ts.length : Int) - 1) = true) then bondZ S a.toNat d.toNat b.toNat ((d.toNat + 2) % 4) else 0
noncomputable def bo2 (S : Set_) (a d b : Int) : Int := if validB S = true then (if inB a 0 ((S.ts.length : Int) - 1) = true ∧ inB d 0 3 = true ∧ inB b 0 ((S.ts.length : Int) - 1) = true then 0 else 2) else 1
theorem bo_no {S : Set_} (h : validB S = false) (a d b : Int) : bo1 S a d b = 0 ∧ bo2 S a d b = 1 := by simp [bo1, bo2, h]
theorem bo_out {S : Set_} (h : validB S = true) {a d b : Int} (h2 : ¬ (inB a 0 ((S.ts.length : Int) - 1) = true ∧ inB d 0 3 = true ∧ inB b 0 ((S.ts.length : Int) - 1) = true)) : bo1 S a d b = 0 ∧ bo2 S a d b = 2 :=
  ⟨by unfold bo1; rw [if_neg (fun x => h2 x.2)], by unfold bo2; rw [if_pos h, if_neg h2]⟩
theorem bo_yes {S : Set_} (h : validB S = true) {a d b : Int} (h2 : inB a 0 ((S.ts.length : Int) - 1) = true ∧ inB d 0 3 = true ∧ inB b 0 ((S.ts.length : Int) - 1) = true) : bo1 S a d b = bondZ S a.toNat d.toNat b.toNat ((d.toNat + 2) % 4) ∧ bo2 S a d b = 0 :=
  ⟨by unfold bo1; rw [if_pos ⟨h, h2⟩], by unfold bo2; rw [if_pos h, if_pos h2]⟩

set_option maxHeartbeats 1600000 in
theorem specBondOf_any (vg vt : Value) (S : Set_) (a d b : Int) (w : World) (hS : SetIn w vg vt S) (ok : S.ok) (hs : S.small) :
    Calls Try.prog 28 #[.agg #[vg, vt], .int .i64 a, .int .i64 d, .int .i64 b] w fun e w' => e = .returned (.tuple #[.int .i64 (bo1 S a d b), .int .i64 (bo2 S a d b)]) ∧ Below w.heap.size w w' := by
  have HS := Lib.hid hS
  have htl := hs.tl
  clear hS
  cases hv : validB S
  · have K := Lib.hid (bo_no hv a d b)
    go_enter Try.func28, Try.ntmps28
    go_wp2_with fail
    refine (l02Ok_any w.heap.size vg vt S _ ⟨by simp [go_sem], by simp [go_sem]⟩ (HS.out.below (by (repeat (first | exact Below.refl _ _ | refine Below.setCell ?_ (by first | (simp; done) | (simp; omega) | omega) _ | refine belowN ?_ _ | refine Below.drew ?_ | refine Below.alloc ?_ (by first | (simp; done) | (simp; omega) | omega) _ | refine Below.trans ?_ (Below.mono (by assumption) (by first | (simp; done) | (simp; omega) | omega)))))) ok hs).mono ?_
    rintro e w1 ⟨rfl, hb1⟩
    go_wp2_with fail
    go_ret2
    exact ⟨ret_ii K.out.1.symm K.out.2.symm, by (repeat (first | exact Below.refl _ _ | refine Below.setCell ?_ (by first | (simp; done) | (simp; omega) | omega) _ | refine belowN ?_ _ | refine Below.drew ?_ | refine Below.alloc ?_ (by first | (simp; done) | (simp; omega) | omega) _ | refine Below.trans ?_ (Below.mono (by assumption) (by first | (simp; done) | (simp; omega) | omega))))⟩
  · have V := Lib.hid (validB_iff.1 hv)
    by_cases hin : inB a 0 ((S.ts.length : Int) - 1) = true ∧ inB d 0 3 = true ∧ inB b 0 ((S.ts.length : Int) - 1) = true
    · have K := Lib.hid (bo_yes hv hin)
      obtain ⟨h2, h3, h4⟩ := hin
      have r2 := inB_iff.1 h2
      have r3 := inB_iff.1 h3
      have r4 := inB_iff.1 h4
      obtain ⟨ka, rfl⟩ : ∃ k : Nat, a = (k : Int) := ⟨a.toNat, by omega⟩
      obtain ⟨m, rfl⟩ : ∃ m : Nat, d = (m : Int) := ⟨d.toNat, by omega⟩
      obtain ⟨kb, rfl⟩ : ∃ k : Nat, b = (k : Int) := ⟨b.toNat, by omega⟩
      have hka : ka < S.ts.length := by omega
      have hkb : kb < S.ts.length := by omega
      have hm : m < 4 := by omega
      go_enter Try.func28, Try.ntmps28
      go_wp2_with fail
      refine (l02Ok_any w.heap.size vg vt S _ ⟨by simp [go_sem], by simp [go_sem]⟩ (HS.out.below (by (repeat (first | exact Below.refl _ _ | refine Below.setCell ?_ (by first | (simp; done) | (simp; omega) | omega) _ | refine belowN ?_ _ | refine Below.drew ?_ | refine Below.alloc ?_ (by first | (simp; done) | (simp; omega) | omega) _ | refine Below.trans ?_ (Below.mono (by assumption) (by first | (simp; done) | (simp; omega) | omega)))))) ok hs).mono ?_
      rintro e w1 ⟨rfl, hb1⟩
      have A1 := Lib.hid ((At.new w vg vt 31).below hb1)
      have B1 : Below w.heap.size w w1 := by (repeat (first | exact Below.refl _ _ | refine Below.setCell ?_ (by first | (simp; done) | (simp; omega) | omega) _ | refine belowN ?_ _ | refine Below.drew ?_ | refine Below.alloc ?_ (by first | (simp; done) | (simp; omega) | omega) _ | refine Below.trans ?_ (Below.mono (by assumption) (by first | (simp; done) | (simp; omega) | omega))))
      have S1 := Lib.hid (HS.out.below B1)
      have s1 := B1.size
      clear hb1
      go_wp2_with (first
        | (go_at_call_of 65 (Value.int IntKind.i64 (ka : Int)); refine (l02Index_any w.heap.size vg vt S.ts ka _ A1.out S1.out.t htl).mono ?_; rintro e w' ⟨rfl, rfl⟩; rw [h2])
        | (go_at_call_of 65 (Value.int IntKind.i64 (kb : Int)); refine (l02Index_any w.heap.size vg vt S.ts kb _ A1.out S1.out.t htl).mono ?_; rintro e w' ⟨rfl, rfl⟩; rw [h4])
        | (go_at_call 66; refine (l01Dir_any _ _).mono ?_; rintro e w' ⟨rfl, rfl⟩; rw [h3])
        | (go_at_call 72; refine (l02Bond_any w.heap.size vg vt S ka m kb ((m + 2) % 4) _ A1.out S1.out hs V.out hka hm hkb rfl).mono ?_; rintro e w2 ⟨rfl, hb2⟩))
      go_ret2
      exact ⟨ret_ii (by rw [K.out.1]; rfl) K.out.2.symm, by (repeat (first | exact Below.refl _ _ | refine Below.setCell ?_ (by first | (simp; done) | (simp; omega) | omega) _ | refine belowN ?_ _ | refine Below.drew ?_ | refine Below.alloc ?_ (by first | (simp; done) | (simp; omega) | omega) _ | refine Below.trans ?_ (Below.mono (by assumption) (by first | (simp; done) | (simp; omega) | omega))))⟩
    · have K := Lib.hid (bo_out hv hin)
      cases h2 : inB a 0 ((S.ts.length : Int) - 1) <;> cases h3 : inB d 0 3 <;> cases h4 : inB b 0 ((S.ts.length : Int) - 1)
      case neg.true.true.true => exact absurd ⟨h2, h3, h4⟩ hin
      all_goals
        clear hin
        go_enter Try.func28, Try.ntmps28
        go_wp2_with fail
        refine (l02Ok_any w.heap.size vg vt S _ ⟨by simp [go_sem], by simp [go_sem]⟩ (HS.out.below (by (repeat (first | exact Below.refl _ _ | refine Below.setCell ?_ (by first | (simp; done) | (simp; omega) | omega) _ | refine belowN ?_ _ | refine Below.drew ?_ | refine Below.alloc ?_ (by first | (simp; done) | (simp; omega) | omega) _ | refine Below.trans ?_ (Below.mono (by assumption) (by first | (simp; done) | (simp; omega) | omega)))))) ok hs).mono ?_
        rintro e w1 ⟨rfl, hb1⟩
        have A1 := Lib.hid ((At.new w vg vt 31).below hb1)
        have B1 : Below w.heap.size w w1 := by (repeat (first | exact Below.refl _ _ | refine Below.setCell ?_ (by first | (simp; done) | (simp; omega) | omega) _ | refine belowN ?_ _ | refine Below.drew ?_ | refine Below.alloc ?_ (by first | (simp; done) | (simp; omega) | omega) _ | refine Below.trans ?_ (Below.mono (by assumption) (by first | (simp; done) | (simp; omega) | omega))))
        have S1 := Lib.hid (HS.out.below B1)
        have s1 := B1.size
        clear hb1
        go_wp2_with (first
          | (go_at_call 65; refine (l02Index_any w.heap.size vg vt S.ts _ _ A1.out S1.out.t htl).mono ?_; rintro e w' ⟨rfl, rfl⟩)
          | (go_at_call 66; refine (l01Dir_any _ _).mono ?_; rintro e w' ⟨rfl, rfl⟩))
        go_ret2
        exact ⟨ret_ii K.out.1.symm K.out.2.symm, by (repeat (first | exact Below.refl _ _ | refine Below.setCell ?_ (by first | (simp; done) | (simp; omega) | omega) _ | refine belowN ?_ _ | refine Below.drew ?_ | refine Below.alloc ?_ (by first | (simp; done) | (simp; omega) | omega) _ | refine Below.trans ?_ (Below.mono (by assumption) (by first | (simp; done) | (simp; omega) | omega))))⟩

set_option maxHeartbeats 1600000 in
theorem implBondOf_any (vg vt : Value) (S : Set_) (a d b : Int) (w : World) (hS : SetIn w vg vt S) (ok : S.ok) (hs : S.small) :
    Calls Try.prog 29 #[.agg #[vg, vt], .int .i64 a, .int .i64 d, .int .i64 b] w fun e w' => e = .returned (.tuple #[.int .i64 (bo1 S a d b), .int .i64 (bo2 S a d b)]) ∧ Below w.heap.size w w' := by
  have HS := Lib.hid hS
  have htl := hs.tl
  clear hS
  cases hv : validB S
  · have K := Lib.hid (bo_no hv a d b)
    go_enter Try.func29, Try.ntmps29
    go_wp2_with fail
    refine (implValid_any vg vt S _ (HS.out.below (by (repeat (first | exact Below.refl _ _ | refine Below.setCell ?_ (by first | (simp; done) | (simp; omega) | omega) _ | refine belowN ?_ _ | refine Below.drew ?_ | refine Below.alloc ?_ (by first | (simp; done) | (simp; omega) | omega) _ | refine Below.trans ?_ (Below.mono (by assumption) (by first | (simp; done) | (simp; omega) | omega)))))) ok hs).mono ?_
    rintro e w1 ⟨rfl, hb1⟩
    go_wp2_with fail
    go_ret2
    exact ⟨ret_ii K.out.1.symm K.out.2.symm, by (repeat (first | exact Below.refl _ _ | refine Below.setCell ?_ (by first | (simp; done) | (simp; omega) | omega) _ | refine belowN ?_ _ | refine Below.drew ?_ | refine Below.alloc ?_ (by first | (simp; done) | (simp; omega) | omega) _ | refine Below.trans ?_ (Below.mono (by assumption) (by first | (simp; done) | (simp; omega) | omega))))⟩
  · have V := Lib.hid (validB_iff.1 hv)
    by_cases hin : inB a 0 ((S.ts.length : Int) - 1) = true ∧ inB d 0 3 = true ∧ inB b 0 ((S.ts.length : Int) - 1) = true
    · have K := Lib.hid (bo_yes hv hin)
      obtain ⟨h2, h3, h4⟩ := hin
      have r2 := inB_iff.1 h2
      have r3 := inB_iff.1 h3
      have r4 := inB_iff.1 h4
      obtain ⟨ka, rfl⟩ : ∃ k : Nat, a = (k : Int) := ⟨a.toNat, by omega⟩
      obtain ⟨m, rfl⟩ : ∃ m : Nat, d = (m : Int) := ⟨d.toNat, by omega⟩
      obtain ⟨kb, rfl⟩ : ∃ k : Nat, b = (k : Int) := ⟨b.toNat, by omega⟩
      have hka : ka < S.ts.length := by omega
      have hkb : kb < S.ts.length := by omega
      have hm : m < 4 := by omega
      go_enter Try.func29, Try.ntmps29
      go_wp2_with fail
      refine (implValid_any vg vt S _ (HS.out.below (by (repeat (first | exact Below.refl _ _ | refine Below.setCell ?_ (by first | (simp; done) | (simp; omega) | omega) _ | refine belowN ?_ _ | refine Below.drew ?_ | refine Below.alloc ?_ (by first | (simp; done) | (simp; omega) | omega) _ | refine Below.trans ?_ (Below.mono (by assumption) (by first | (simp; done) | (simp; omega) | omega)))))) ok hs).mono ?_
      rintro e w1 ⟨rfl, hb1⟩
      have B1 : Below w.heap.size w w1 := by (repeat (first | exact Below.refl _ _ | refine Below.setCell ?_ (by first | (simp; done) | (simp; omega) | omega) _ | refine belowN ?_ _ | refine Below.drew ?_ | refine Below.alloc ?_ (by first | (simp; done) | (simp; omega) | omega) _ | refine Below.trans ?_ (Below.mono (by assumption) (by first | (simp; done) | (simp; omega) | omega))))
      have s1 := B1.size
      have A1 := Lib.hid ((At.new w vg vt 31).below hb1)
      clear hb1
      obtain ⟨q0, q1⟩ := A1.out
      go_wp2_with fail
      refine (hasTile_any vg vt S.ts ka _ (HS.out.t.below B1) htl).mono ?_
      rintro e w2 ⟨rfl, hb2⟩
      rw [h2]
      have A2 := Lib.hid (A1.out.below hb2)
      have B2 : Below w.heap.size w w2 := by (repeat (first | exact Below.refl _ _ | refine Below.setCell ?_ (by first | (simp; done) | (simp; omega) | omega) _ | refine belowN ?_ _ | refine Below.drew ?_ | refine Below.alloc ?_ (by first | (simp; done) | (simp; omega) | omega) _ | refine Below.trans ?_ (Below.mono (by assumption) (by first | (simp; done) | (simp; omega) | omega))))
      have s2 := B2.size
      clear hb2 q0 q1
      obtain ⟨q0, q1⟩ := A2.out
      go_wp2_with (go_at_call 69; refine (isDirection_any _ _).mono ?_; rintro e w' ⟨rfl, rfl⟩; rw [h3])
      refine (hasTile_any vg vt S.ts kb _ (HS.out.t.below B2) htl).mono ?_
      rintro e w3 ⟨rfl, hb3⟩
      rw [h4]
      have A3 := Lib.hid (A2.out.below hb3)
      have B3 : Below w.heap.size w w3 := by (repeat (first | exact Below.refl _ _ | refine Below.setCell ?_ (by first | (simp; done) | (simp; omega) | omega) _ | refine belowN ?_ _ | refine Below.drew ?_ | refine Below.alloc ?_ (by first | (simp; done) | (simp; omega) | omega) _ | refine Below.trans ?_ (Below.mono (by assumption) (by first | (simp; done) | (simp; omega) | omega))))
      have s3 := B3.size
      clear hb3 q0 q1
      obtain ⟨q0, q1⟩ := A3.out
      go_wp2_with fail
      refine (bond_any vg vt S ka m kb ((m + 2) % 4) _ (HS.out.below B3) hs V.out hka hm hkb rfl).mono ?_
      rintro e w4 ⟨rfl, hb4⟩
      go_wp2_with fail
      go_ret2
      exact ⟨ret_ii (by rw [K.out.1]; rfl) K.out.2.symm, by (repeat (first | exact Below.refl _ _ | refine Below.setCell ?_ (by first | (simp; done) | (simp; omega) | omega) _ | refine belowN ?_ _ | refine Below.drew ?_ | refine Below.alloc ?_ (by first | (simp; done) | (simp; omega) | omega) _ | refine Below.trans ?_ (Below.mono (by assumption) (by first | (simp; done) | (simp; omega) | omega))))⟩
    · have K := Lib.hid (bo_out hv hin)
      cases h2 : inB a 0 ((S.ts.length : Int) - 1) <;> cases h3 : inB d 0 3 <;> cases h4 : inB b 0 ((S.ts.length : Int) - 1)
      case neg.true.true.true => exact absurd ⟨h2, h3, h4⟩ hin
      all_goals
        clear hin
        go_enter Try.func29, Try.ntmps29
        go_wp2_with fail
        refine (implValid_any vg vt S _ (HS.out.below (by (repeat (first | exact Below.refl _ _ | refine Below.setCell ?_ (by first | (simp; done) | (simp; omega) | omega) _ | refine belowN ?_ _ | refine Below.drew ?_ | refine Below.alloc ?_ (by first | (simp; done) | (simp; omega) | omega) _ | refine Below.trans ?_ (Below.mono (by assumption) (by first | (simp; done) | (simp; omega) | omega)))))) ok hs).mono ?_
        rintro e w1 ⟨rfl, hb1⟩
        have B1 : Below w.heap.size w w1 := by (repeat (first | exact Below.refl _ _ | refine Below.setCell ?_ (by first | (simp; done) | (simp; omega) | omega) _ | refine belowN ?_ _ | refine Below.drew ?_ | refine Below.alloc ?_ (by first | (simp; done) | (simp; omega) | omega) _ | refine Below.trans ?_ (Below.mono (by assumption) (by first | (simp; done) | (simp; omega) | omega))))
        have s1 := B1.size
        have A1 := Lib.hid ((At.new w vg vt 31).below hb1)
        clear hb1
        obtain ⟨q0, q1⟩ := A1.out
        go_wp2_with fail
        refine (hasTile_any vg vt S.ts a _ (HS.out.t.below B1) htl).mono ?_
        rintro e w2 ⟨rfl, hb2⟩
        rw [h2]
        have A2 := Lib.hid (A1.out.below hb2)
        have B2 : Below w.heap.size w w2 := by (repeat (first | exact Below.refl _ _ | refine Below.setCell ?_ (by first | (simp; done) | (simp; omega) | omega) _ | refine belowN ?_ _ | refine Below.drew ?_ | refine Below.alloc ?_ (by first | (simp; done) | (simp; omega) | omega) _ | refine Below.trans ?_ (Below.mono (by assumption) (by first | (simp; done) | (simp; omega) | omega))))
        have s2 := B2.size
        clear hb2 q0 q1
        obtain ⟨q0, q1⟩ := A2.out
        go_wp2_with (first
          | (go_at_call 69; refine (isDirection_any _ _).mono ?_; rintro e w' ⟨rfl, rfl⟩; rw [h3])
          | (go_at_call 68; refine (hasTile_any vg vt S.ts b _ (HS.out.t.below B2) htl).mono ?_; rintro e w3 ⟨rfl, hb3⟩; rw [h4]))
        go_ret2
        exact ⟨ret_ii K.out.1.symm K.out.2.symm, by (repeat (first | exact Below.refl _ _ | refine Below.setCell ?_ (by first | (simp; done) | (simp; omega) | omega) _ | refine belowN ?_ _ | refine Below.drew ?_ | refine Below.alloc ?_ (by first | (simp; done) | (simp; omega) | omega) _ | refine Below.trans ?_ (Below.mono (by assumption) (by first | (simp; done) | (simp; omega) | omega))))⟩

end Go.Proofs.Ytfoegoanbppaaaa
