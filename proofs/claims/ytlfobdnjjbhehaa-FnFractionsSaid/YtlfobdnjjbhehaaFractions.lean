/-
  For every slice of bytes, the law FnFractions returns true and leaves its argument as it was. Conditions: none.
-/
import Derived.Test.YtlfobdnjjbhehaaSrc4
import Derived.Test.YtlfobdnjjbhehaaByt
import Derived.Test.YtlfobdnjjbhehaaFrM
import Derived.Test.YtlfobdnjjbhehaaLaw
import Derived.Test.YtlfobdnjjbhehaaKeep
namespace Go.Proofs.Ytlfobdnjjbhehaa
open Go.RowKit

set_option maxRecDepth 100000 in
set_option maxHeartbeats 4000000 in
set_option linter.unusedSimpArgs false in
theorem walk_FnFractions (v : Value) (N : Nat) (w : World) (hv : Bys w v N) :
    Calls Try.prog 3 #[v] w fun e w' => e = .returned (.bool true) ∧ Below w.heap.size w w' := by
  have HB := Lib.hid hv
  by_cases hN : 4096 < N
  · have hd : decide (4096 < N) = true := by simpa using hN
    go_enter Try.func3, Try.ntmps3
    go_wp2_with (go_at_call 4; refine (f6big_any v N _ HB.out).mono ?_; rintro e w1 ⟨rfl, rfl⟩; rw [hd])
    go_ret
    exact ⟨rfl, by (repeat (first | exact Below.refl _ _ | refine Below.setCell ?_ (by first | (simp; done) | (simp; omega) | omega) _ | refine belowN ?_ _ | refine Below.drew ?_ | refine Below.alloc ?_ (by first | (simp; done) | (simp; omega) | omega) _ | refine Below.trans ?_ (Below.mono (by assumption) (by first | (simp; done) | (simp; omega) | omega))))⟩
  have hd : decide (4096 < N) = false := by simpa using hN
  have HC := Lib.hid (hv.code (by omega))
  clear hv hN
  go_enter Try.func3, Try.ntmps3
  go_wp2_with fail
  refine (f6big_any v N _ HB.out).mono ?_
  rintro e w1 ⟨rfl, rfl⟩
  rw [hd]
  go_wp2_with fail
  refine (drawAddFrac_any v _ HC.out).mono ?_
  rintro e w1 ⟨⟨n, d, p, q, rfl⟩, B1⟩
  clear hd
  obtain ⟨s1, h1⟩ : ∃ s, add1 n d p q = s := ⟨_, rfl⟩
  obtain ⟨s2, h2⟩ : ∃ s, add2 n d p q = s := ⟨_, rfl⟩
  obtain ⟨s3, h3⟩ : ∃ s, add3 n d p q = s := ⟨_, rfl⟩
  have RA : ∀ w, Calls Try.prog 6 #[.agg #[.int .i64 n, .int .i64 d], .agg #[.int .i64 p, .int .i64 q]] w fun e w' => e = .returned (.tuple #[.agg #[.int .i64 s1, .int .i64 s2], .int .i64 s3]) ∧ Below w.heap.size w w' := fun w => by
    rw [← h1, ← h2, ← h3]; exact implAddFrac_any n d p q w
  have RS : ∀ w, Calls Try.prog 7 #[.agg #[.int .i64 n, .int .i64 d], .agg #[.int .i64 p, .int .i64 q]] w fun e w' => e = .returned (.tuple #[.agg #[.int .i64 s1, .int .i64 s2], .int .i64 s3]) ∧ Below w.heap.size w w' := fun w => by
    rw [← h1, ← h2, ← h3]; exact specAddFrac_any n d p q w
  have RC : ∀ w, Calls Try.prog 6 #[.agg #[.int .i64 p, .int .i64 q], .agg #[.int .i64 n, .int .i64 d]] w fun e w' => e = .returned (.tuple #[.agg #[.int .i64 s1, .int .i64 s2], .int .i64 s3]) ∧ Below w.heap.size w w' := fun w => by
    rw [← h1, ← h2, ← h3, add_comm_.1, add_comm_.2.1, add_comm_.2.2]; exact implAddFrac_any p q n d w
  have HF : Hid (s3 = 0 → (fracB n d = true ∧ fracB p q = true) ∧ (add1 s1 s2 (-p) q = n ∧ add2 s1 s2 (-p) q = d ∧ add3 s1 s2 (-p) q = 0) ∧ cmp2 s1 s2 n d = 0 ∧ (0 < cmp1 s1 s2 n d ↔ 0 < p) ∧ (cmp1 s1 s2 n d = 0 ↔ p = 0)) := Lib.hid fun h => by
    have h' : add3 n d p q = 0 := by rw [h3]; exact h
    rw [← h1, ← h2]
    exact ⟨(add_ok h').1, add_back h', cmp_add h'⟩
  clear h1 h2 h3
  go_wp2_with fail
  refine (RA _).mono ?_
  rintro e w2 ⟨rfl, hb⟩
  have hbi : Below w1.heap.size w1 w2 := by (repeat (first | exact Below.refl _ _ | refine Below.setCell ?_ (by first | (simp; done) | (simp; omega) | omega) _ | refine belowN ?_ _ | refine Below.drew ?_ | refine Below.alloc ?_ (by first | (simp; done) | (simp; omega) | omega) _ | refine Below.trans ?_ (Below.mono (by assumption) (by first | (simp; done) | (simp; omega) | omega))))
  have Ta2 : Hid (Two w2 (w1.heap.size) (.int .i64 n) (.int .i64 d)) := Lib.hid (Two.below (b := w1.heap.size) (x := .int .i64 n) (y := .int .i64 d) ⟨by simp [go_sem], by simp [go_sem], by simp [go_sem], by simp [go_sem]⟩ hb)
  have Tb2 : Hid (Two w2 (w1.heap.size + 1) (.int .i64 p) (.int .i64 q)) := Lib.hid (Two.below (b := w1.heap.size + 1) (x := .int .i64 p) (y := .int .i64 q) ⟨by simp [go_sem], by simp [go_sem], by simp [go_sem], by simp [go_sem]⟩ hb)
  have B2 : Below w.heap.size w w2 := B1.trans (hbi.mono B1.size)
  clear hb hbi
  have la := Ta2.out.lt
  obtain ⟨cxa, cya, -, -⟩ := Ta2.out
  have lb := Tb2.out.lt
  obtain ⟨cxb, cyb, -, -⟩ := Tb2.out
  go_wp2_with fail
  refine (RS _).mono ?_
  rintro e w3 ⟨rfl, hb⟩
  have hbi : Below w2.heap.size w2 w3 := by (repeat (first | exact Below.refl _ _ | refine Below.setCell ?_ (by first | (simp; done) | (simp; omega) | omega) _ | refine belowN ?_ _ | refine Below.drew ?_ | refine Below.alloc ?_ (by first | (simp; done) | (simp; omega) | omega) _ | refine Below.trans ?_ (Below.mono (by assumption) (by first | (simp; done) | (simp; omega) | omega))))
  have Ta3 := Lib.hid (Ta2.out.below hbi)
  have Tb3 := Lib.hid (Tb2.out.below hbi)
  have Ts3 : Hid (Two w3 (w2.heap.size) (.int .i64 s1) (.int .i64 s2)) := Lib.hid (Two.below (b := w2.heap.size) (x := .int .i64 s1) (y := .int .i64 s2) ⟨by simp [go_sem], by simp [go_sem], by simp [go_sem], by simp [go_sem]⟩ hb)
  have B3 : Below w.heap.size w w3 := B2.trans (hbi.mono B2.size)
  clear cxa cya la cxb cyb lb
  clear hb hbi
  have la := Ta3.out.lt
  obtain ⟨cxa, cya, -, -⟩ := Ta3.out
  have lb := Tb3.out.lt
  obtain ⟨cxb, cyb, -, -⟩ := Tb3.out
  have ls := Ts3.out.lt
  obtain ⟨cxs, cys, -, -⟩ := Ts3.out
  go_wp2_with fail
  refine (RC _).mono ?_
  rintro e w4 ⟨rfl, hb⟩
  have hbi : Below w3.heap.size w3 w4 := by (repeat (first | exact Below.refl _ _ | refine Below.setCell ?_ (by first | (simp; done) | (simp; omega) | omega) _ | refine belowN ?_ _ | refine Below.drew ?_ | refine Below.alloc ?_ (by first | (simp; done) | (simp; omega) | omega) _ | refine Below.trans ?_ (Below.mono (by assumption) (by first | (simp; done) | (simp; omega) | omega))))
  have Ta4 := Lib.hid (Ta3.out.below hbi)
  have Tb4 := Lib.hid (Tb3.out.below hbi)
  have Ts4 := Lib.hid (Ts3.out.below hbi)
  have Tm4 : Hid (Two w4 (w3.heap.size) (.int .i64 s1) (.int .i64 s2)) := Lib.hid (Two.below (b := w3.heap.size) (x := .int .i64 s1) (y := .int .i64 s2) ⟨by simp [go_sem], by simp [go_sem], by simp [go_sem], by simp [go_sem]⟩ hb)
  have B4 : Below w.heap.size w w4 := B3.trans (hbi.mono B3.size)
  clear cxa cya la cxb cyb lb cxs cys ls
  clear hb hbi
  have la := Ta4.out.lt
  obtain ⟨cxa, cya, -, -⟩ := Ta4.out
  have lb := Tb4.out.lt
  obtain ⟨cxb, cyb, -, -⟩ := Tb4.out
  have ls := Ts4.out.lt
  obtain ⟨cxs, cys, -, -⟩ := Ts4.out
  have lm := Tm4.out.lt
  obtain ⟨cxm, cym, -, -⟩ := Tm4.out
  clear RA RS RC
  by_cases hz : s3 = 0
  rotate_left
  · have hzb : (s3 == 0) = false := by simpa using hz
    go_wp2_with fail
    go_ret
    exact ⟨rfl, B4.alloc B4.size _⟩
  obtain ⟨⟨g1, g2⟩, ⟨f1, f2, f3⟩, f4, f5, f6⟩ := HF.out hz
  subst hz
  obtain ⟨⟨⟨p1, p2⟩, -⟩, -⟩ := fracB_iff.1 g2
  have hneg : IntKind.i64.wrap (-p) = -p := IntWalk.i64_in _ (by omega)
  have RB : ∀ w, Calls Try.prog 6 #[.agg #[.int .i64 s1, .int .i64 s2], .agg #[.int .i64 (-p), .int .i64 q]] w fun e w' => e = .returned (.tuple #[.agg #[.int .i64 n, .int .i64 d], .int .i64 0]) ∧ Below w.heap.size w w' := fun w => by
    have := implAddFrac_any s1 s2 (-p) q w
    rw [f1, f2, f3] at this; exact this
  obtain ⟨c, hc⟩ : ∃ c, cmp1 s1 s2 n d = c := ⟨_, rfl⟩
  have RCm : ∀ w, Calls Try.prog 8 #[.agg #[.int .i64 s1, .int .i64 s2], .agg #[.int .i64 n, .int .i64 d]] w fun e w' => e = .returned (.tuple #[.int .i64 c, .int .i64 0]) ∧ Below w.heap.size w w' := fun w => by
    have := implCompareFrac_any s1 s2 n d w
    rw [f4, hc] at this; exact this
  rw [hc] at f5 f6
  have e1 : decide (0 < c) = decide (0 < p) := decide_eq_decide.2 f5
  have e2 : (c == 0) = (p == 0) := by
    by_cases h : p = 0
    · rw [f6.2 h, h]
    · rw [beq_eq_false_iff_ne.2 h, beq_eq_false_iff_ne.2 (fun h' => h (f6.1 h'))]
  obtain ⟨m1, hm1⟩ : ∃ s, mul1 n d p q = s := ⟨_, rfl⟩
  obtain ⟨m2, hm2⟩ : ∃ s, mul2 n d p q = s := ⟨_, rfl⟩
  obtain ⟨m3, hm3⟩ : ∃ s, mul3 n d p q = s := ⟨_, rfl⟩
  have RM : ∀ w, Calls Try.prog 9 #[.agg #[.int .i64 n, .int .i64 d], .agg #[.int .i64 p, .int .i64 q]] w fun e w' => e = .returned (.tuple #[.agg #[.int .i64 m1, .int .i64 m2], .int .i64 m3]) ∧ Below w.heap.size w w' := fun w => by
    rw [← hm1, ← hm2, ← hm3]; exact implMulFrac_any n d p q w
  have h34 : m3 = 0 ∨ m3 = 4 := by rw [← hm3]; exact mul_in g1 g2
  have HM : Hid (m3 = 0 → p ≠ 0 → fracB m1 m2 = true ∧ div1 m1 m2 p q = n ∧ div2 m1 m2 p q = d ∧ div3 m1 m2 p q = 0) := Lib.hid fun h h' => by
    rw [← hm1, ← hm2]
    exact mul_back g1 g2 (by rw [hm3]; exact h) h'
  clear f1 f2 f3 f4 f5 f6 hc hm1 hm2 hm3 g1 g2 HF
  go_wp2_with fail
  refine (RB _).mono ?_
  rintro e w5 ⟨rfl, hb⟩
  have hbi : Below w4.heap.size w4 w5 := by (repeat (first | exact Below.refl _ _ | refine Below.setCell ?_ (by first | (simp; done) | (simp; omega) | omega) _ | refine belowN ?_ _ | refine Below.drew ?_ | refine Below.alloc ?_ (by first | (simp; done) | (simp; omega) | omega) _ | refine Below.trans ?_ (Below.mono (by assumption) (by first | (simp; done) | (simp; omega) | omega))))
  have Ta5 := Lib.hid (Ta4.out.below hbi)
  have Tb5 := Lib.hid (Tb4.out.below hbi)
  have Ts5 := Lib.hid (Ts4.out.below hbi)
  have Tm5 := Lib.hid (Tm4.out.below hbi)
  have To5 : Hid (Two w5 (w4.heap.size) (.int .i64 s1) (.int .i64 s2)) := Lib.hid (Two.below (b := w4.heap.size) (x := .int .i64 s1) (y := .int .i64 s2) ⟨by simp [go_sem], by simp [go_sem], by simp [go_sem], by simp [go_sem]⟩ hb)
  have B5 : Below w.heap.size w w5 := B4.trans (hbi.mono B4.size)
  clear cxa cya la cxb cyb lb cxs cys ls cxm cym lm
  clear hb hbi
  have la := Ta5.out.lt
  obtain ⟨cxa, cya, -, -⟩ := Ta5.out
  have lb := Tb5.out.lt
  obtain ⟨cxb, cyb, -, -⟩ := Tb5.out
  have ls := Ts5.out.lt
  obtain ⟨cxs, cys, -, -⟩ := Ts5.out
  have lm := Tm5.out.lt
  obtain ⟨cxm, cym, -, -⟩ := Tm5.out
  have lo := To5.out.lt
  obtain ⟨cxo, cyo, -, -⟩ := To5.out
  go_wp2_with fail
  refine (RCm _).mono ?_
  rintro e w6 ⟨rfl, hb⟩
  have hbi : Below w5.heap.size w5 w6 := by (repeat (first | exact Below.refl _ _ | refine Below.setCell ?_ (by first | (simp; done) | (simp; omega) | omega) _ | refine belowN ?_ _ | refine Below.drew ?_ | refine Below.alloc ?_ (by first | (simp; done) | (simp; omega) | omega) _ | refine Below.trans ?_ (Below.mono (by assumption) (by first | (simp; done) | (simp; omega) | omega))))
  have Ta6 := Lib.hid (Ta5.out.below hbi)
  have Tb6 := Lib.hid (Tb5.out.below hbi)
  have Ts6 := Lib.hid (Ts5.out.below hbi)
  have Tm6 := Lib.hid (Tm5.out.below hbi)
  have To6 := Lib.hid (To5.out.below hbi)
  have Tk6 : Hid (Two w6 (w5.heap.size) (.int .i64 n) (.int .i64 d)) := Lib.hid (Two.below (b := w5.heap.size) (x := .int .i64 n) (y := .int .i64 d) ⟨by simp [go_sem], by simp [go_sem], by simp [go_sem], by simp [go_sem]⟩ hb)
  have B6 : Below w.heap.size w w6 := B5.trans (hbi.mono B5.size)
  clear cxa cya la cxb cyb lb cxs cys ls cxm cym lm cxo cyo lo
  clear hb hbi
  have la := Ta6.out.lt
  obtain ⟨cxa, cya, -, -⟩ := Ta6.out
  have lb := Tb6.out.lt
  obtain ⟨cxb, cyb, -, -⟩ := Tb6.out
  have ls := Ts6.out.lt
  obtain ⟨cxs, cys, -, -⟩ := Ts6.out
  have lm := Tm6.out.lt
  obtain ⟨cxm, cym, -, -⟩ := Tm6.out
  have lo := To6.out.lt
  obtain ⟨cxo, cyo, -, -⟩ := To6.out
  have lk := Tk6.out.lt
  obtain ⟨cxk, cyk, -, -⟩ := Tk6.out
  go_wp2_with fail
  refine (RM _).mono ?_
  rintro e w7 ⟨rfl, hb⟩
  have hbi : Below w6.heap.size w6 w7 := by (repeat (first | exact Below.refl _ _ | refine Below.setCell ?_ (by first | (simp; done) | (simp; omega) | omega) _ | refine belowN ?_ _ | refine Below.drew ?_ | refine Below.alloc ?_ (by first | (simp; done) | (simp; omega) | omega) _ | refine Below.trans ?_ (Below.mono (by assumption) (by first | (simp; done) | (simp; omega) | omega))))
  have Ta7 := Lib.hid (Ta6.out.below hbi)
  have Tb7 := Lib.hid (Tb6.out.below hbi)
  have Ts7 := Lib.hid (Ts6.out.below hbi)
  have Tm7 := Lib.hid (Tm6.out.below hbi)
  have To7 := Lib.hid (To6.out.below hbi)
  have Tk7 := Lib.hid (Tk6.out.below hbi)
  have B7 : Below w.heap.size w w7 := B6.trans (hbi.mono B6.size)
  clear cxa cya la cxb cyb lb cxs cys ls cxm cym lm cxo cyo lo cxk cyk lk
  clear hb hbi
  have la := Ta7.out.lt
  obtain ⟨cxa, cya, -, -⟩ := Ta7.out
  have lb := Tb7.out.lt
  obtain ⟨cxb, cyb, -, -⟩ := Tb7.out
  have ls := Ts7.out.lt
  obtain ⟨cxs, cys, -, -⟩ := Ts7.out
  have lm := Tm7.out.lt
  obtain ⟨cxm, cym, -, -⟩ := Tm7.out
  have lo := To7.out.lt
  obtain ⟨cxo, cyo, -, -⟩ := To7.out
  have lk := Tk7.out.lt
  obtain ⟨cxk, cyk, -, -⟩ := Tk7.out
  clear RB RCm RM
  obtain rfl | rfl := h34
  · by_cases hp : p = 0
    · subst hp
      go_wp2_with fail
      go_ret
      exact ⟨rfl, B7.alloc B7.size _⟩
    · have hpb : (p == 0) = false := by simpa using hp
      obtain ⟨r1, r2, r3, r4⟩ := HM.out rfl hp
      have RD : ∀ w, Calls Try.prog 10 #[.agg #[.int .i64 m1, .int .i64 m2], .agg #[.int .i64 p, .int .i64 q]] w fun e w' => e = .returned (.tuple #[.agg #[.int .i64 n, .int .i64 d], .int .i64 0]) ∧ Below w.heap.size w w' := fun w => by
        have := implDivFrac_any m1 m2 p q w
        rw [r2, r3, r4] at this; exact this
      have RV : ∀ w, Calls Try.prog 11 #[.agg #[.int .i64 m1, .int .i64 m2]] w fun e w' => e = .returned (.bool true) ∧ Below w.heap.size w w' := fun w => by
        have := validFrac_any m1 m2 w
        rw [r1] at this; exact this
      clear r1 r2 r3 r4 HM
      go_wp2_with fail
      refine (RD _).mono ?_
      rintro e w8 ⟨rfl, hb⟩
      have hbi : Below w7.heap.size w7 w8 := by (repeat (first | exact Below.refl _ _ | refine Below.setCell ?_ (by first | (simp; done) | (simp; omega) | omega) _ | refine belowN ?_ _ | refine Below.drew ?_ | refine Below.alloc ?_ (by first | (simp; done) | (simp; omega) | omega) _ | refine Below.trans ?_ (Below.mono (by assumption) (by first | (simp; done) | (simp; omega) | omega))))
      have Ta8 := Lib.hid (Ta7.out.below hbi)
      have Tb8 := Lib.hid (Tb7.out.below hbi)
      have Ts8 := Lib.hid (Ts7.out.below hbi)
      have Tm8 := Lib.hid (Tm7.out.below hbi)
      have To8 := Lib.hid (To7.out.below hbi)
      have Tk8 := Lib.hid (Tk7.out.below hbi)
      have Tr8 : Hid (Two w8 (w7.heap.size) (.int .i64 m1) (.int .i64 m2)) := Lib.hid (Two.below (b := w7.heap.size) (x := .int .i64 m1) (y := .int .i64 m2) ⟨by simp [go_sem], by simp [go_sem], by simp [go_sem], by simp [go_sem]⟩ hb)
      have B8 : Below w.heap.size w w8 := B7.trans (hbi.mono B7.size)
      clear cxa cya la cxb cyb lb cxs cys ls cxm cym lm cxo cyo lo cxk cyk lk
      clear hb hbi
      have la := Ta8.out.lt
      obtain ⟨cxa, cya, -, -⟩ := Ta8.out
      have lb := Tb8.out.lt
      obtain ⟨cxb, cyb, -, -⟩ := Tb8.out
      have ls := Ts8.out.lt
      obtain ⟨cxs, cys, -, -⟩ := Ts8.out
      have lm := Tm8.out.lt
      obtain ⟨cxm, cym, -, -⟩ := Tm8.out
      have lo := To8.out.lt
      obtain ⟨cxo, cyo, -, -⟩ := To8.out
      have lk := Tk8.out.lt
      obtain ⟨cxk, cyk, -, -⟩ := Tk8.out
      have lr := Tr8.out.lt
      obtain ⟨cxr, cyr, -, -⟩ := Tr8.out
      clear RD
      go_wp2_with fail
      refine (RV _).mono ?_
      rintro e w9 ⟨rfl, hb⟩
      have B9 : Below w8.heap.size w8 w9 := by (repeat (first | exact Below.refl _ _ | refine Below.setCell ?_ (by first | (simp; done) | (simp; omega) | omega) _ | refine belowN ?_ _ | refine Below.drew ?_ | refine Below.alloc ?_ (by first | (simp; done) | (simp; omega) | omega) _ | refine Below.trans ?_ (Below.mono (by assumption) (by first | (simp; done) | (simp; omega) | omega))))
      go_wp2_with fail
      go_ret
      exact ⟨rfl, B8.trans (B9.mono B8.size)⟩
  · go_wp2_with fail
    go_ret
    exact ⟨rfl, B7.alloc B7.size _⟩

namespace fnFractions
open Go.ChangeShapes Go.WideShapes Go.ChangeAt Go.RowKit Go.Joins
open Go.ChangeMaps (open_string shut_string)
theorem own : ownKnob Try.prog.godebug = none := by kernel_rfl
theorem laidOut : laidOutB Try.prog = true := by kernel_rfl
theorem readable : (Try.f3.params.toList.all fun t => Try.prog.readableRec t && decide (t < Try.prog.types.size)) = true := by kernel_rfl
set_option maxRecDepth 100000 in
set_option linter.unusedVariables false in
theorem contract (H : Type) (enc : TypeId × Value → H) (W : World) (base : Nat) (args : Array Value) (ds gs : List (DataW H)) (before : List MemPlace)
    (hval : ∀ (j : Nat) t v, Try.f3.params[j]? = some t → args[j]? = some v → Value.okWide Try.prog W .any base t v)
    (hW : DataW.Whole enc Try.prog Try.f3.params.toList Rows.fnFractionsSpec.vars false W args.toList ds gs before) :
    Calls Try.prog 3 args W fun e W' => ∃ v, e = .returned v ∧ Rows.fnFractionsSpec.post enc Try.prog Try.f3 false true false false W args v W' := by
  have hW' := hW
  obtain ⟨p, q, hA0, hV, rfl, hfz, hnd⟩ := hW
  have hA : DataW.TrodAll enc Try.prog W 0 (fun _ => true) true Try.f3.params.toList args.toList ds p := hA0
  rw [Try.params3] at hA hval
  obtain ⟨v0, vs0, d0, ds0, p0, q0, ha0, rfl, rfl, h0, r0⟩ := trodAll_cons hA
  obtain ⟨rfl, rfl, rfl⟩ := trodAll_nil r0
  obtain rfl : args = #[v0] := by cases args; simp_all
  obtain ⟨rfl, rfl⟩ := trodVars_none hV
  obtain ⟨n0, y0, hy0⟩ := open_valueB Try.underlying22 (hval 0 22 v0 rfl rfl) h0
  obtain ⟨N0, hg0⟩ := open_u8 (t := 22) (e := 5) Try.underlying22 Try.underlying5 (by kernel_rfl) hy0
  refine (walk_FnFractions v0 N0 W hg0).mono fun e W' ⟨he, hg⟩ => ?_
  subst he
  exact ⟨_, rfl, post_mem laidOut readable hW' (fun _ _ _ => (trodAll_cons_mk (shut_bool Try.underlying4 _) trodAll_mk0)) hA0 rfl rfl (by simp) hg⟩
set_option maxRecDepth 100000 in
theorem lifted (os : Os) (started : os.Started) (H : Type) (enc : TypeId × Value → H) :
    ReturnsInHanded {} Try.checked os 3 .any (Rows.fnFractionsSpec.pre6 enc Try.prog Try.f3 Rows.fnFractionsRow.domain false) (Rows.fnFractionsSpec.post enc Try.prog Try.f3 false true false false) := by
  refine returnsInHanded_of_change (C := Try.checked) own started (by kernel_rfl) Try.func3
    (ChangeSpec.witness6 (enc := enc) (C := Try.checked) false ⟨#[], #[.slice none 0 0], []⟩ 8 (by kernel_rfl) (by kernel_rfl) (by kernel_rfl) (by kernel_rfl)) ?_
  intro W base args ds gs before hval hW _ _
  exact contract H enc W base args ds gs before hval hW
end fnFractions
theorem fnFractions_holds : Rows.FnFractionsSaid :=
  OpenClaim.holds_of_wide 3 Try.f3 rfl rfl rfl rfl rfl rfl rfl ⟨rfl, rfl, rfl, rfl, rfl⟩ rfl rfl rfl rfl rfl (by kernel_rfl) Try.func3 (by kernel_rfl)
    (of_decide_eq_true (by kernel_rfl)) (by unfold Func.isWrapper; first | (rw [if_pos (by decide +kernel)]; kernel_rfl) | (rw [if_neg (by decide +kernel)]; exact ⟨rfl, rfl⟩))
    (fun os started H enc _ => fnFractions.lifted os started H enc)
end Go.Proofs.Ytlfobdnjjbhehaa
