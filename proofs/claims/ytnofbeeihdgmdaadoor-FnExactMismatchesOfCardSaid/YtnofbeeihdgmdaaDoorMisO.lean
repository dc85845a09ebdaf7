/-
  MismatchesOf, the model's and the program's. Conditions: each theorem's own; the program's reads the listed table of steps.
-/
import Derived.Test.YtnofbeeihdgmdaaDoorMisM
namespace Go.Proofs.YtnofbeeihdgmdaaDoor
open Go.RowKit

open Classical in
/-- MismatchesOf: the tiles that do not fit. -/
noncomputable def miL (S : Set_) (ps : List Pl) : List Bd := if vaB S ps = true then misT S ps (tcs ps ps.length) else []
theorem miL_yes {S : Set_} {ps : List Pl} (h : vaB S ps = true) : miL S ps = misT S ps (tcs ps ps.length) := by unfold miL; rw [if_pos h]
theorem miL_no {S : Set_} {ps : List Pl} (h : vaB S ps = false) : miL S ps = [] := by unfold miL; rw [if_neg (by rw [h]; simp)]
theorem smallMismatchesOf {S : Set_} {ps : List Pl} (_h : S.small) (_h2 : ps.length ≤ 1048576) : (miL S ps).length ≤ 1048576 := by
  unfold miL
  split
  · rename_i h
    have := misT_small (S := S) (List.prefix_refl (tcs ps ps.length)) (vaB_va h).F.len
    omega
  · exact Nat.zero_le _

set_option maxRecDepth 100000 in
set_option maxHeartbeats 4000000 in
set_option linter.unusedSimpArgs false in
theorem specMismatchesOf_law (vg1 vt1 : Value) (S1 : Set_) (v2 : Value) (P2 : List Pl) (w : World) (h1 : SetIn w vg1 vt1 S1) (_s1 : ∃ a k q, vg1 = .slice (some a) k q) (ok1 : S1.ok) (m1 : S1.small) (h2 : Plcs w v2 P2) (_s2 : ∃ a k q, v2 = .slice (some a) k q) (_o2 : ∀ p ∈ P2, p.ok) (_m2 : P2.length ≤ 1048576) :
    Calls Tryd.prog 27 #[.agg #[vg1, vt1], .agg #[v2]] w fun e w' => BoPost w (miL S1 P2) (askC S1 P2) e w' ∧ Below w.heap.size w w' := by
  have HS := Lib.hid h1
  have HV := Lib.hid h2
  have HB := Lib.hid (boxes_sa w vg1 vt1 v2 38 42)
  clear h1 h2
  go_enter Tryd.func27, Tryd.ntmps27
  go_wp2_with fail
  refine (l06Asked_any _ _ vg1 vt1 v2 S1 P2 _ HB.out.1 HB.out.2 (HS.out.below (by (repeat (first | exact Below.refl _ _ | refine Below.setCell ?_ (by first | (simp; done) | (simp; omega) | omega) _ | refine belowN ?_ _ | refine Below.drew ?_ | refine Below.alloc ?_ (by first | (simp; done) | (simp; omega) | omega) _ | refine Below.trans ?_ (Below.mono (by assumption) (by first | (simp; done) | (simp; omega) | omega)))))) ok1 m1 (HV.out.below (by (repeat (first | exact Below.refl _ _ | refine Below.setCell ?_ (by first | (simp; done) | (simp; omega) | omega) _ | refine belowN ?_ _ | refine Below.drew ?_ | refine Below.alloc ?_ (by first | (simp; done) | (simp; omega) | omega) _ | refine Below.trans ?_ (Below.mono (by assumption) (by first | (simp; done) | (simp; omega) | omega))))))).mono ?_
  rintro e w1 ⟨rfl, hb1⟩
  have B1 : Below w.heap.size w w1 := by (repeat (first | exact Below.refl _ _ | refine Below.setCell ?_ (by first | (simp; done) | (simp; omega) | omega) _ | refine belowN ?_ _ | refine Below.drew ?_ | refine Below.alloc ?_ (by first | (simp; done) | (simp; omega) | omega) _ | refine Below.trans ?_ (Below.mono (by assumption) (by first | (simp; done) | (simp; omega) | omega))))
  have z1 := B1.size
  have G1 := Lib.hid (HB.out.1.below hb1)
  have A1 := Lib.hid (HB.out.2.below hb1)
  clear hb1 HB
  cases hv : vaB S1 P2
  · have K := Lib.hid (miL_no hv)
    have K2 := Lib.hid (askC_no hv)
    rw [askC_no hv]
    go_wp2_with fail
    go_ret2
    exact ⟨⟨_, by rw [K2.out]; rfl, by rw [K.out]; exact .inl ⟨rfl, rfl⟩⟩, B1⟩
  have HVa := Lib.hid (vaB_va hv)
  have K := Lib.hid (miL_yes hv)
  have K2 := Lib.hid (askC_yes hv)
  rw [askC_yes hv]
  clear hv
  go_wp2_with fail
  refine (l06Misfits_any _ _ vg1 vt1 v2 S1 P2 _ G1.out A1.out (HS.out.below B1) m1 (HV.out.below B1) HVa.out).mono ?_
  rintro e w2 ⟨⟨v', rfl, ho⟩, hb2⟩
  have HO := Lib.hid ho
  clear ho
  go_wp2_with fail
  go_ret2
  exact ⟨⟨_, by rw [K2.out]; rfl, by rw [K.out]; exact HO.out.mono z1 (Nat.le_refl _)⟩, B1.trans (hb2.mono z1)⟩

set_option maxRecDepth 100000 in
set_option maxHeartbeats 4000000 in
set_option linter.unusedSimpArgs false in
theorem implMismatchesOf_law (vg1 vt1 : Value) (S1 : Set_) (v2 : Value) (P2 : List Pl) (w : World) (h1 : SetIn w vg1 vt1 S1) (s1 : ∃ a k q, vg1 = .slice (some a) k q) (ok1 : S1.ok) (m1 : S1.small) (h2 : Plcs w v2 P2) (s2 : ∃ a k q, v2 = .slice (some a) k q) (o2 : ∀ p ∈ P2, p.ok) (m2 : P2.length ≤ 1048576) (hT : Steps w) :
    Calls Tryd.prog 28 #[.agg #[vg1, vt1], .agg #[v2]] w fun e w' => BoPost w (miL S1 P2) (askC S1 P2) e w' ∧ Below w.heap.size w w' := by
  have HS := Lib.hid h1
  have HV := Lib.hid h2
  have HT := Lib.hid hT
  have HB := Lib.hid (boxes_sa w vg1 vt1 v2 38 42)
  clear h1 h2 hT
  obtain ⟨b0, b1⟩ := HB.out.1
  obtain ⟨b2⟩ := HB.out.2
  go_enter Tryd.func28, Tryd.ntmps28
  go_wp2_with fail
  refine (implValidAssembly_law vg1 vt1 S1 v2 P2 _ (HS.out.below (by (repeat (first | exact Below.refl _ _ | refine Below.setCell ?_ (by first | (simp; done) | (simp; omega) | omega) _ | refine belowN ?_ _ | refine Below.drew ?_ | refine Below.alloc ?_ (by first | (simp; done) | (simp; omega) | omega) _ | refine Below.trans ?_ (Below.mono (by assumption) (by first | (simp; done) | (simp; omega) | omega)))))) s1 ok1 m1 (HV.out.below (by (repeat (first | exact Below.refl _ _ | refine Below.setCell ?_ (by first | (simp; done) | (simp; omega) | omega) _ | refine belowN ?_ _ | refine Below.drew ?_ | refine Below.alloc ?_ (by first | (simp; done) | (simp; omega) | omega) _ | refine Below.trans ?_ (Below.mono (by assumption) (by first | (simp; done) | (simp; omega) | omega)))))) s2 o2 m2).mono ?_
  rintro e w1 ⟨rfl, hb1⟩
  have B1 : Below w.heap.size w w1 := by (repeat (first | exact Below.refl _ _ | refine Below.setCell ?_ (by first | (simp; done) | (simp; omega) | omega) _ | refine belowN ?_ _ | refine Below.drew ?_ | refine Below.alloc ?_ (by first | (simp; done) | (simp; omega) | omega) _ | refine Below.trans ?_ (Below.mono (by assumption) (by first | (simp; done) | (simp; omega) | omega))))
  have z1 := B1.size
  have G1 := Lib.hid (HB.out.1.below hb1)
  have A1 := Lib.hid (HB.out.2.below hb1)
  clear hb1 HB b0 b1 b2
  cases hv : vaB S1 P2
  · have K := Lib.hid (miL_no hv)
    have K2 := Lib.hid (askC_no hv)
    go_wp2_with fail
    go_ret2
    exact ⟨⟨_, by rw [K2.out]; rfl, by rw [K.out]; exact .inl ⟨rfl, rfl⟩⟩, B1⟩
  have HVa := Lib.hid (vaB_va hv)
  have K := Lib.hid (miL_yes hv)
  have K2 := Lib.hid (askC_yes hv)
  clear hv
  obtain ⟨g0, g1⟩ := G1.out
  obtain ⟨a0⟩ := A1.out
  go_wp2_with fail
  refine (misses_any _ _ _ _).mono ?_
  rintro e w2 ⟨rfl, rfl⟩
  have GB : At ((w1.alloc (.cells #[vg1, vt1] 38)).alloc (.cells #[v2] 42)) w1.heap.size vg1 vt1 := ⟨by simp [go_sem], by simp [go_sem]⟩
  have AB : At1 ((w1.alloc (.cells #[vg1, vt1] 38)).alloc (.cells #[v2] 42)) (w1.heap.size + 1) v2 := ⟨by simp [go_sem]⟩
  have zW : ((w1.alloc (.cells #[vg1, vt1] 38)).alloc (.cells #[v2] 42)).heap.size = w1.heap.size + 2 := by simp
  have BW : Below w.heap.size w ((w1.alloc (.cells #[vg1, vt1] 38)).alloc (.cells #[v2] 42)) := (B1.alloc z1 _).alloc (by simp; omega) _
  have hgv := Lib.hid (misses_gives w w1.heap.size (w1.heap.size + 1) vg1 vt1 v2 S1 P2 (fun k => k < w1.heap.size + 2) _ BW (fun k h => by omega) (by omega) (by omega) (fun k h => by omega) GB AB HS.out m1 HV.out HVa.out HT.out)
  have hsm := misT_small (S := S1) (List.prefix_refl (tcs P2 P2.length)) HVa.out.F.len
  clear GB AB g0 g1 a0
  go_wp2_with fail
  refine (collect_any _ _ _ _ _ hgv.out (enters_of Tryd.func92 (by kernel_rfl) rfl) hsm (fun k h => by omega)).mono ?_
  rintro e w3 ⟨⟨v', rfl, ho⟩, hb3⟩
  have HO := Lib.hid ho
  have z3 := BW.size
  clear ho
  go_wp2_with fail
  go_ret2
  exact ⟨⟨_, by rw [K2.out]; rfl, by rw [K.out]; exact HO.out.mono z3 (Nat.le_refl _)⟩, BW.trans (hb3.mono z3)⟩
end Go.Proofs.YtnofbeeihdgmdaaDoor
