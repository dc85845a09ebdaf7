/-
  MergeSets of the program. Conditions: the theorem's own.
-/
import Derived.Test.YtggpmailkkpdaaaMergeV
import Derived.Test.YtggpmailkkpdaaaMirI
namespace Go.Proofs.Ytggpmailkkpdaaa
open Go.RowKit

/-- No set. -/
theorem set_nil {W w' : World} {c : Int} {S : Set_} {x : Int} (h : W.heap.size ≤ w'.heap.size) (hS : S = ⟨[], []⟩) (hc : x = c) : SetPost W S c (.returned (.tuple #[.agg #[.slice none 0 0, .slice none 0 0], .int .i64 x])) w' := by
  subst hS; subst hc
  exact ⟨_, _, rfl, W.heap.size, W.heap.size, W.heap.size, W.heap.size, Nat.le_refl _, h, Nat.le_refl _, h, .inl (Nat.le_refl _), .inl ⟨rfl, rfl⟩, .inl ⟨rfl, rfl⟩⟩

set_option maxRecDepth 100000 in
set_option maxHeartbeats 4000000 in
set_option linter.unusedSimpArgs false in
theorem implMergeSets_any (ga ta gb tb : Value) (A B : Set_) (w : World) (hA : SetIn w ga ta A) (hB : SetIn w gb tb B) (sola : Solid ga) (oka : A.ok) (okb : B.ok) (sa : A.small) (sb : B.small) :
    Calls Try.prog 10 #[.agg #[ga, ta], .agg #[gb, tb]] w fun e w' => SetPost w (meS A B) (meC A B) e w' ∧ Below w.heap.size w w' := by
  have HA := Lib.hid hA
  have HB := Lib.hid hB
  have hga := sa.gl
  have hgb := sb.gl
  have hta := sa.tl
  have htb := sb.tl
  clear hA hB
  have X0 := Lib.hid ((Two.new w ga ta 30 rfl).alloc (.cells #[gb, tb] 30))
  have X1 := Lib.hid (X0.out.alloc (.cells #[.slice none 0 0, .slice none 0 0] 30))
  have Y1 := Lib.hid ((Two.new (w.alloc (.cells #[ga, ta] 30)) gb tb 30 (n := w.heap.size + 1) (by simp)).alloc (.cells #[.slice none 0 0, .slice none 0 0] 30))
  have Z1 := Lib.hid (Two.new ((w.alloc (.cells #[ga, ta] 30)).alloc (.cells #[gb, tb] 30)) (.slice none 0 0) (.slice none 0 0) 30 (n := w.heap.size + 1 + 1) (by simp))
  clear X0
  go_enter Try.func10, Try.ntmps10
  go_wp2_with fail
  refine (implValid_any ga ta A _ (HA.out.below (by (repeat (first | exact Below.refl _ _ | refine Below.setCell ?_ (by first | (simp; done) | (simp; omega) | omega) _ | refine belowN ?_ _ | refine Below.drew ?_ | refine Below.alloc ?_ (by first | (simp; done) | (simp; omega) | omega) _ | refine Below.trans ?_ (Below.mono (by assumption) (by first | (simp; done) | (simp; omega) | omega)))))) oka sa).mono ?_
  rintro e w1 ⟨rfl, hb1⟩
  have B1 : Below w.heap.size w w1 := by (repeat (first | exact Below.refl _ _ | refine Below.setCell ?_ (by first | (simp; done) | (simp; omega) | omega) _ | refine belowN ?_ _ | refine Below.drew ?_ | refine Below.alloc ?_ (by first | (simp; done) | (simp; omega) | omega) _ | refine Below.trans ?_ (Below.mono (by assumption) (by first | (simp; done) | (simp; omega) | omega))))
  have z1 := B1.size
  have X2 := Lib.hid (X1.out.below hb1)
  have Y2 := Lib.hid (Y1.out.below hb1)
  have Z2 := Lib.hid (Z1.out.below hb1)
  have l1 := Z2.out.lt
  obtain ⟨x0, x1, xz0, xz1⟩ := Z2.out
  obtain ⟨e0, e1, -, -⟩ := Y2.out
  clear hb1 X1 Y1 Z1
  cases hv : validB A
  · have K := Lib.hid (show meC A B = 1 by unfold meC; rw [hv]; simp)
    go_wp2_with fail
    refine bodyPost_ret (v := .tuple #[.agg #[.slice none 0 0, .slice none 0 0], .int .i64 1]) ?_ rfl ⟨set_nil (by simp; omega) (meS_no K.out (by decide)) K.out.symm, by (repeat (first | exact Below.refl _ _ | refine Below.setCell ?_ (by first | (simp; done) | (simp; omega) | omega) _ | refine belowN ?_ _ | refine Below.drew ?_ | refine Below.alloc ?_ (by first | (simp; done) | (simp; omega) | omega) _ | refine Below.trans ?_ (Below.mono (by assumption) (by first | (simp; done) | (simp; omega) | omega))))⟩
    simp [results, Try.results10, go_sem, x0, x1, xz0, xz1]
  have VA := Lib.hid hv
  clear hv
  go_wp2_with fail
  refine (implValid_any gb tb B _ (HB.out.below B1) okb sb).mono ?_
  rintro e w2 ⟨rfl, hb2⟩
  have B2 : Below w.heap.size w w2 := by (repeat (first | exact Below.refl _ _ | refine Below.setCell ?_ (by first | (simp; done) | (simp; omega) | omega) _ | refine belowN ?_ _ | refine Below.drew ?_ | refine Below.alloc ?_ (by first | (simp; done) | (simp; omega) | omega) _ | refine Below.trans ?_ (Below.mono (by assumption) (by first | (simp; done) | (simp; omega) | omega))))
  have z2 := B2.size
  have X3 := Lib.hid (X2.out.below hb2)
  have Y3 := Lib.hid (Y2.out.below hb2)
  have Z3 := Lib.hid (Z2.out.below hb2)
  have l2 := Z3.out.lt
  clear x0 x1 xz0 xz1 e0 e1 hb2 X2 Y2 Z2
  obtain ⟨x0, x1, xz0, xz1⟩ := Z3.out
  obtain ⟨e0, e1, -, -⟩ := Y3.out
  obtain ⟨a0, a1, -, -⟩ := X3.out
  cases hv : validB B
  · have K := Lib.hid (show meC A B = 1 by unfold meC; rw [hv]; simp)
    go_wp2_with fail
    refine bodyPost_ret (v := .tuple #[.agg #[.slice none 0 0, .slice none 0 0], .int .i64 1]) ?_ rfl ⟨set_nil (by simp; omega) (meS_no K.out (by decide)) K.out.symm, by (repeat (first | exact Below.refl _ _ | refine Below.setCell ?_ (by first | (simp; done) | (simp; omega) | omega) _ | refine belowN ?_ _ | refine Below.drew ?_ | refine Below.alloc ?_ (by first | (simp; done) | (simp; omega) | omega) _ | refine Below.trans ?_ (Below.mono (by assumption) (by first | (simp; done) | (simp; omega) | omega))))⟩
    simp [results, Try.results10, go_sem, x0, x1, xz0, xz1]
  have VB := Lib.hid hv
  clear hv
  have PA := Lib.hid (validB_iff.1 VA.out)
  have PB := Lib.hid (validB_iff.1 VB.out)
  have a200 := PA.out.g.len
  have b200 := PB.out.g.len
  have a160 := PA.out.t.len
  have b160 := PB.out.t.len
  go_wp2_with fail
  refine (mergeGlues_any ga gb A.gs B.gs _ (HA.out.g.below B2) sola (HB.out.g.below B2) oka.g okb.g (by omega) (by omega) (fun i j hij hj => (PA.out.g.all j hj).2.2 i hij)).mono ?_
  rintro e w3 ⟨hmg, hb3⟩
  have B3 : Below w.heap.size w w3 := by (repeat (first | exact Below.refl _ _ | refine Below.setCell ?_ (by first | (simp; done) | (simp; omega) | omega) _ | refine belowN ?_ _ | refine Below.drew ?_ | refine Below.alloc ?_ (by first | (simp; done) | (simp; omega) | omega) _ | refine Below.trans ?_ (Below.mono (by assumption) (by first | (simp; done) | (simp; omega) | omega))))
  have z3 := B3.size
  have X4 := Lib.hid (X3.out.below hb3)
  have Y4 := Lib.hid (Y3.out.below hb3)
  have Z4 := Lib.hid (Z3.out.below hb3)
  have l3 := Z4.out.lt
  have D3 := Lib.hid hb3
  clear x0 x1 xz0 xz1 e0 e1 a0 a1 hb3 X3 Y3 Z3
  obtain ⟨x0, x1, xz0, xz1⟩ := Z4.out
  obtain ⟨e0, e1, -, -⟩ := Y4.out
  obtain ⟨a0, a1, -, -⟩ := X4.out
  rcases hmg with ⟨hag, v1, v2, rfl, hr1, hr2⟩ | ⟨hag, rfl⟩
  rotate_left
  · have K := Lib.hid (show meC A B = 7 by unfold meC; rw [VA.out, VB.out, if_neg (by simp), if_pos hag])
    go_wp2_with fail
    refine bodyPost_ret (v := .tuple #[.agg #[.slice none 0 0, .slice none 0 0], .int .i64 7]) ?_ rfl ⟨set_nil (by simp; omega) (meS_no K.out (by decide)) K.out.symm, by (repeat (first | exact Below.refl _ _ | refine Below.setCell ?_ (by first | (simp; done) | (simp; omega) | omega) _ | refine belowN ?_ _ | refine Below.drew ?_ | refine Below.alloc ?_ (by first | (simp; done) | (simp; omega) | omega) _ | refine Below.trans ?_ (Below.mono (by assumption) (by first | (simp; done) | (simp; omega) | omega))))⟩
    simp [results, Try.results10, go_sem, x0, x1, xz0, xz1]
  have HR1 := Lib.hid hr1
  have HAG := Lib.hid hag
  have hln := mNums_len A.gs B.gs B.gs.length
  obtain ⟨bn, hbn, hon⟩ := OwnAt.of_row hr2
  have HIN := Lib.hid hon.ints
  obtain ⟨na, nn, nc, rfl⟩ := own_shape hr2
  clear hr1 hr2 hag hbn hon
  obtain ⟨ra, rc, rfl⟩ := own_len HR1.out
  go_wp2_with fail
  refine (mergeTiles_any ta tb _ A.ts B.ts (mNums A.gs B.gs B.gs.length) _ (HA.out.t.below B3) (HB.out.t.below B3) HIN.out oka.t okb.t (by omega) (by omega) (fun k hk => PA.out.sides hk) (fun k hk => PB.out.sides hk) (fun k hk m hm => by have := (PB.out.t.all k hk).2.1.2 m hm; rw [hln]; omega) (fun i j hij hj => (PA.out.t.all j hj).2.2 i hij)).mono ?_
  rintro e w4 ⟨hmt, hb4⟩
  have B4 : Below w.heap.size w w4 := by (repeat (first | exact Below.refl _ _ | refine Below.setCell ?_ (by first | (simp; done) | (simp; omega) | omega) _ | refine belowN ?_ _ | refine Below.drew ?_ | refine Below.alloc ?_ (by first | (simp; done) | (simp; omega) | omega) _ | refine Below.trans ?_ (Below.mono (by assumption) (by first | (simp; done) | (simp; omega) | omega))))
  have z4 := B4.size
  have X5 := Lib.hid (X4.out.below hb4)
  have Z5 := Lib.hid (Z4.out.below hb4)
  have l4 := Z5.out.lt
  have D4 := Lib.hid hb4
  have s34 := hb4.size
  clear x0 x1 xz0 xz1 e0 e1 a0 a1 hb4 X4 Y4 Z4
  obtain ⟨x0, x1, xz0, xz1⟩ := Z5.out
  rcases hmt with ⟨hat, v3, rfl, hbt⟩ | ⟨hat, rfl⟩
  rotate_left
  · have K := Lib.hid (show meC A B = 7 by unfold meC; rw [VA.out, VB.out, if_neg (by simp), if_neg (by simpa using HAG.out), if_pos hat])
    go_wp2_with fail
    refine bodyPost_ret (v := .tuple #[.agg #[.slice none 0 0, .slice none 0 0], .int .i64 7]) ?_ rfl ⟨set_nil (by simp; omega) (meS_no K.out (by decide)) K.out.symm, by (repeat (first | exact Below.refl _ _ | refine Below.setCell ?_ (by first | (simp; done) | (simp; omega) | omega) _ | refine belowN ?_ _ | refine Below.drew ?_ | refine Below.alloc ?_ (by first | (simp; done) | (simp; omega) | omega) _ | refine Below.trans ?_ (Below.mono (by assumption) (by first | (simp; done) | (simp; omega) | omega))))⟩
    simp [results, Try.results10, go_sem, x0, x1, xz0, xz1]
  have HBT := Lib.hid hbt
  have HAT := Lib.hid hat
  have hG1 := mNew_len A.gs B.gs B.gs.length
  have hG2 : (mG A.gs B.gs B.gs.length).length = A.gs.length + (mNew A.gs B.gs B.gs.length).length := by simp [mG]
  have hG3 : (mG A.gs B.gs B.gs.length).length ≤ 1000 := by omega
  have hT1 := tNew_len A.ts B.ts (mNums A.gs B.gs B.gs.length) B.ts.length
  have hT2 : (mT A.ts B.ts (mNums A.gs B.gs B.gs.length) B.ts.length).length = A.ts.length + (tNew A.ts B.ts (mNums A.gs B.gs B.gs.length) B.ts.length).length := by simp [mT]
  have hT3 : (mT A.ts B.ts (mNums A.gs B.gs B.gs.length) B.ts.length).length ≤ 1000 := by omega
  have E1 : (mS A B).gs.length = (mG A.gs B.gs B.gs.length).length := rfl
  have E2 : (mS A B).ts.length = (mT A.ts B.ts (mNums A.gs B.gs B.gs.length) B.ts.length).length := rfl
  have HE1 := Lib.hid E1
  have HE2 := Lib.hid E2
  clear hbt hat hG1 hG2 hT1 hT2 E1 E2
  obtain ⟨qa, qc, rfl⟩ := built_len HBT.out
  generalize hn1 : (mG A.gs B.gs B.gs.length).length = n1 at *
  generalize hn2 : (mT A.ts B.ts (mNums A.gs B.gs B.gs.length) B.ts.length).length = n2 at *
  have HN1 := Lib.hid hn1
  have HN2 := Lib.hid hn2
  clear hn1 hn2
  by_cases hfull : 200 < n1 ∨ 160 < n2
  · have K := Lib.hid (show meC A B = 4 by unfold meC; rw [VA.out, VB.out, if_neg (by simp), if_neg (by simpa using HAG.out), if_neg (by simpa using HAT.out), if_pos (by rw [HE1.out, HE2.out]; exact hfull)])
    rcases Nat.lt_or_ge 200 n1 with h1 | h1
    · have h1' : (200 : Int) < n1 := by omega
      go_wp2_with fail
      refine bodyPost_ret (v := .tuple #[.agg #[.slice none 0 0, .slice none 0 0], .int .i64 4]) ?_ rfl ⟨set_nil (by simp; omega) (meS_no K.out (by decide)) K.out.symm, by (repeat (first | exact Below.refl _ _ | refine Below.setCell ?_ (by first | (simp; done) | (simp; omega) | omega) _ | refine belowN ?_ _ | refine Below.drew ?_ | refine Below.alloc ?_ (by first | (simp; done) | (simp; omega) | omega) _ | refine Below.trans ?_ (Below.mono (by assumption) (by first | (simp; done) | (simp; omega) | omega))))⟩
      simp [results, Try.results10, go_sem, x0, x1, xz0, xz1]
    · have h1' : ¬ (200 : Int) < n1 := by omega
      have h2' : (160 : Int) < n2 := by omega
      go_wp2_with fail
      refine bodyPost_ret (v := .tuple #[.agg #[.slice none 0 0, .slice none 0 0], .int .i64 4]) ?_ rfl ⟨set_nil (by simp; omega) (meS_no K.out (by decide)) K.out.symm, by (repeat (first | exact Below.refl _ _ | refine Below.setCell ?_ (by first | (simp; done) | (simp; omega) | omega) _ | refine belowN ?_ _ | refine Below.drew ?_ | refine Below.alloc ?_ (by first | (simp; done) | (simp; omega) | omega) _ | refine Below.trans ?_ (Below.mono (by assumption) (by first | (simp; done) | (simp; omega) | omega))))⟩
      simp [results, Try.results10, go_sem, x0, x1, xz0, xz1]
  · have K := Lib.hid (show meC A B = 0 by unfold meC; rw [VA.out, VB.out, if_neg (by simp), if_neg (by simpa using HAG.out), if_neg (by simpa using HAT.out), if_neg (by rw [HE1.out, HE2.out]; exact hfull)])
    have h1' : ¬ (200 : Int) < n1 := by omega
    have h2' : ¬ (160 : Int) < n2 := by omega
    have OG := Lib.hid ((OwnGs.of_row (gs := (mS A B).gs) (by rw [HE1.out]; exact HR1.out)).keep (Within.of (lo := 0) (hi := 0) D4.out) (.inr (Nat.zero_le _)))
    have OT := Lib.hid (Built.ts (ts := (mS A B).ts) (by rw [HE2.out]; exact HBT.out))
    clear hfull
    go_wp2_with fail
    refine bodyPost_ret (v := .tuple #[.agg #[.slice ra n1 rc, .slice qa n2 qc], .int .i64 0]) ?_ rfl ⟨⟨_, _, by rw [K.out], ?_⟩, by (repeat (first | exact Below.refl _ _ | refine Below.setCell ?_ (by first | (simp; done) | (simp; omega) | omega) _ | refine belowN ?_ _ | refine Below.drew ?_ | refine Below.alloc ?_ (by first | (simp; done) | (simp; omega) | omega) _ | refine Below.trans ?_ (Below.mono (by assumption) (by first | (simp; done) | (simp; omega) | omega))))⟩
    · simp [results, Try.results10, go_sem, x0, x1, xz0, xz1]
    · rw [meS_yes K.out]
      have W1 : Within (w.heap.size + 1 + 1) (w.heap.size + 1 + 1 + 1) w4 ((w4.setCell ⟨w.heap.size + 1 + 1, 0, none⟩ (.slice ra n1 rc)).setCell ⟨w.heap.size + 1 + 1, 1, none⟩ (.slice qa n2 qc)) :=
        (Within.set (w.heap.size + 1 + 1) (w.heap.size + 1 + 1 + 1) w4 (a := ⟨w.heap.size + 1 + 1, 0, none⟩) (Nat.le_refl _) (Nat.lt_succ_self _) (.slice ra n1 rc)).trans (Within.set (w.heap.size + 1 + 1) (w.heap.size + 1 + 1 + 1) _ (a := ⟨w.heap.size + 1 + 1, 1, none⟩) (Nat.le_refl _) (Nat.lt_succ_self _) (.slice qa n2 qc))
      exact ⟨w2.heap.size, w3.heap.size, w3.heap.size, w4.heap.size, by omega, by simp; omega, by omega, by simp, .inl (Nat.le_refl _), OG.out.keep W1 (.inr (by omega)), OT.out.keep W1 (.inr (by omega))⟩

end Go.Proofs.Ytggpmailkkpdaaa
