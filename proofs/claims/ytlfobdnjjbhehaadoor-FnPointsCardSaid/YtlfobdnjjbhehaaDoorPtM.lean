/-
  Points: a step and the step back, the direction between both, and the point that its own text denotes. Conditions: each theorem's own.
-/
import Derived.Test.YtlfobdnjjbhehaaDoorRdPt2
import Derived.Test.YtlfobdnjjbhehaaDoorPtTxt
import Derived.Test.YtlfobdnjjbhehaaDoorDirB
namespace Go.Proofs.YtlfobdnjjbhehaaDoor
open Go.RowKit

theorem ix_app (l r : List UInt8) (h : ∀ c ∈ l, c ≠ 44) : Lib.index (l ++ 44 :: r) [44] = (l.length : Int) := by
  induction l with
  | nil => simp [Lib.index]
  | cons c l ih =>
    have h1 := ih fun x hx => h x (List.mem_cons_of_mem _ hx)
    have h2 : ((44 : UInt8) == c) = false := by rw [beq_eq_false_iff_ne]; exact Ne.symm (h c (List.mem_cons_self ..))
    have h3 : ((l.length : Int) == -1) = false := by rw [beq_eq_false_iff_ne]; omega
    rw [List.cons_append, Lib.index]
    simp [List.isPrefixOf, h2, h1, h3]
theorem cut_app (l r : List UInt8) (h : ∀ c ∈ l, c ≠ 44) : Lib.cut (l ++ 44 :: r) [44] = (l, r, true) := by
  have e := ix_app l r h
  unfold Lib.cut
  rw [e, if_pos (by omega)]
  have e2 : ((l.length : Int)).toNat = l.length := Int.toNat_natCast _
  rw [e2]
  simp
theorem itoa_44 (n : Int) : ∀ c ∈ Lib.itoa n, c ≠ 44 := by
  have hd : ∀ u : Nat, ∀ c ∈ Lib.decDigits u, c ≠ 44 := fun u c hc e => by
    have := List.all_eq_true.1 (dec_all u) c hc
    have := (digC_iff.1 this).1
    subst e
    exact absurd this (by decide)
  intro c hc
  by_cases h : n < 0
  · rw [itoa_neg h] at hc
    rcases List.mem_cons.1 hc with rfl | hc
    · decide
    · exact hd _ c hc
  · rw [itoa_pos h] at hc
    exact hd _ c hc
theorem twoNum_list (x y : Int) : (twoNum x y 44).data.toList = Lib.itoa x ++ 44 :: Lib.itoa y := by
  unfold twoNum
  simp [ByteArray.data_append]
theorem pt_read {x y : Int} (h : ptB x y = true) : rpB (ptText x y) = true ∧ rpX (ptText x y) = x ∧ rpY (ptText x y) = y := by
  obtain ⟨⟨p1, p2⟩, p3, p4⟩ := ptB_iff.1 h
  have e : ptText x y = twoNum x y 44 := by unfold ptText; rw [if_pos h]
  have e1 : cl (ptText x y) = Lib.itoa x := by unfold cl; rw [e, twoNum_list, cut_app _ _ (itoa_44 x)]
  have e2 : cr (ptText x y) = Lib.itoa y := by unfold cr; rw [e, twoNum_list, cut_app _ _ (itoa_44 x)]
  have r1 := rd_of (l := Lib.itoa x) (n := x) ⟨⟨by omega, by omega⟩, rfl⟩
  have r2 := rd_of (l := Lib.itoa y) (n := y) ⟨⟨by omega, by omega⟩, rfl⟩
  have hb : rpB (ptText x y) = true := by unfold rpB; rw [e1, e2, r1.1, r2.1, r1.2, r2.2, h]; rfl
  refine ⟨hb, ?_, ?_⟩
  · unfold rpX; rw [if_pos hb, e1]; exact r1.2
  · unfold rpY; rw [if_pos hb, e2]; exact r2.2
theorem pt_size {x y : Int} (h : ptB x y = true) : (ptText x y).size ≤ 1048576 := by
  obtain ⟨⟨p1, p2⟩, p3, p4⟩ := ptB_iff.1 h
  have e : ptText x y = twoNum x y 44 := by unfold ptText; rw [if_pos h]
  have l1 := Lib.itoa_length_le x (by omega) (by omega)
  have l2 := Lib.itoa_length_le y (by omega) (by omega)
  have := list_len (twoNum x y 44)
  rw [twoNum_list] at this
  simp at this
  rw [e]; omega
-- a step within the limits leads back, and so on
set_option linter.unusedSimpArgs false in
theorem step_facts {x y d : Int} (h : step3 x y d = 0) :
    (ptB x y = true ∧ 0 ≤ d ∧ d ≤ 3) ∧
    (step1 (step1 x y d) (step2 x y d) (oppZ d) = x ∧ step2 (step1 x y d) (step2 x y d) (oppZ d) = y ∧ step3 (step1 x y d) (step2 x y d) (oppZ d) = 0) ∧
    (dir1 x y (step1 x y d) (step2 x y d) = d ∧ dir2 x y (step1 x y d) (step2 x y d) = 0) ∧
    (dir1 (step1 x y d) (step2 x y d) x y = oppZ d ∧ dir2 (step1 x y d) (step2 x y d) x y = 0) ∧
    (lessB x y (step1 x y d) (step2 x y d) != lessB (step1 x y d) (step2 x y d) x y) = true := by
  have hb : stepB x y d = true := by
    unfold step3 at h
    cases hc : stepB x y d
    · rw [hc] at h; simp at h
    · rfl
  have hb' := hb
  unfold stepB at hb'
  simp only [Bool.and_eq_true] at hb'
  obtain ⟨⟨h1, h2⟩, h3⟩ := hb'
  have h2 := inB_iff.1 h2
  have e1 : step1 x y d = stepX x d := by unfold step1; rw [if_pos hb]
  have e2 : step2 x y d = stepY y d := by unfold step2; rw [if_pos hb]
  rw [e1, e2]
  have hx : stepX (stepX x d) (oppZ d) = x := by
    obtain rfl | rfl | rfl | rfl : d = 0 ∨ d = 1 ∨ d = 2 ∨ d = 3 := by omega
    all_goals simp [stepX, oppZ] <;> omega
  have hy : stepY (stepY y d) (oppZ d) = y := by
    obtain rfl | rfl | rfl | rfl : d = 0 ∨ d = 1 ∨ d = 2 ∨ d = 3 := by omega
    all_goals simp [stepY, oppZ] <;> omega
  have ho : inB (oppZ d) 0 3 = true := by
    obtain rfl | rfl | rfl | rfl : d = 0 ∨ d = 1 ∨ d = 2 ∨ d = 3 := by omega
    all_goals decide
  have hbk : stepB (stepX x d) (stepY y d) (oppZ d) = true := by unfold stepB; rw [hx, hy, h1, h3, ho]; rfl
  have s1 : seek x y (stepX x d) (stepY y d) 4 0 = some d := by
    obtain rfl | rfl | rfl | rfl : d = 0 ∨ d = 1 ∨ d = 2 ∨ d = 3 := by omega
    all_goals simp [seek, stepX, stepY, show ¬ (y + 1 = y - 1) by omega, show ¬ (y - 1 = y + 1) by omega, show ¬ (x + 1 = x - 1) by omega, show ¬ (x - 1 = x + 1) by omega, show ¬ (y + 1 = y) by omega, show ¬ (x + 1 = x) by omega, show ¬ (x - 1 = x) by omega, show ¬ (y - 1 = y) by omega, show ¬ (y = y - 1) by omega, show ¬ (x = x - 1) by omega]
  have s2 : seek (stepX x d) (stepY y d) x y 4 0 = some (oppZ d) := by
    obtain rfl | rfl | rfl | rfl : d = 0 ∨ d = 1 ∨ d = 2 ∨ d = 3 := by omega
    all_goals simp [seek, stepX, stepY, oppZ, show ¬ (y + 1 + 1 = y) by omega, show ¬ (x + 1 + 1 = x) by omega, show ¬ (x - 1 - 1 = x) by omega, show ¬ (y - 1 - 1 = y) by omega, show ¬ (y - 1 = y) by omega, show ¬ (x - 1 = x) by omega, show ¬ (y + 1 = y) by omega, show ¬ (x + 1 = x) by omega]
  have d1 : dirB x y (stepX x d) (stepY y d) = true := by unfold dirB; rw [h1, h3]; rfl
  have d2 : dirB (stepX x d) (stepY y d) x y = true := by unfold dirB; rw [h1, h3]; rfl
  refine ⟨⟨h1, h2⟩, ⟨?_, ?_, ?_⟩, ⟨?_, ?_⟩, ⟨?_, ?_⟩, ?_⟩
  · unfold step1; rw [if_pos hbk, hx]
  · unfold step2; rw [if_pos hbk, hy]
  · unfold step3; rw [if_pos hbk]
  · unfold dir1; rw [if_pos d1, s1]; rfl
  · unfold dir2; rw [if_pos d1, s1]; rfl
  · unfold dir1; rw [if_pos d2, s2]; rfl
  · unfold dir2; rw [if_pos d2, s2]; rfl
  · obtain rfl | rfl | rfl | rfl : d = 0 ∨ d = 1 ∨ d = 2 ∨ d = 3 := by omega
    all_goals simp [lessB, stepX, stepY] <;> omega
end Go.Proofs.YtlfobdnjjbhehaaDoor
