/-
  The points of an assembly, the program's. Conditions: each theorem's own.
-/
import Derived.Test.YtggpmailkkpdaaaDoorPts
namespace Go.Proofs.YtggpmailkkpdaaaDoor
open Go.RowKit

open Classical in
noncomputable def poQ (ps : List Pl) : Cols := ⟨if formB ps = true then ps.length else 0, qC ps⟩
theorem smallPointsOf {ps : List Pl} (h : ps.length ≤ 1048576) : (poQ ps).n ≤ 1048576 := by
  unfold poQ; dsimp only; split <;> omega
theorem poQ_yes {ps : List Pl} (h : formB ps = true) : poQ ps = ⟨ps.length, qC ps⟩ := by unfold poQ; rw [if_pos h]
theorem poQ_no {ps : List Pl} (h : formB ps = false) : poQ ps = ⟨0, qC ps⟩ := by unfold poQ; rw [if_neg (by rw [h]; simp)]

set_option maxHeartbeats 1600000 in
theorem implPointsOf_law (v1 : Value) (P1 : List Pl) (w : World) (h1 : Plcs w v1 P1) (_s1 : ∃ a k q, v1 = .slice (some a) k q) (_o1 : ∀ p ∈ P1, p.ok) (m1 : P1.length ≤ 1048576) :
    Calls Tryd.prog 54 #[.agg #[v1]] w fun e w' => QsPost w (poQ P1) e w' ∧ Below w.heap.size w w' := by
  have HV := Lib.hid h1
  obtain ⟨ao, cap, rfl, hl, hm, hc⟩ := h1.open_
  unfold maxLen at hm
  have H0 := Lib.hid hc
  have HA := Lib.hid (At1.new w (.slice ao P1.length cap) 47)
  obtain ⟨i0, hi, hz0, hz1, hz2⟩ := info_parts info_point
  clear h1 hc
  go_enter Tryd.func54, Tryd.ntmps54
  go_wp2_with fail
  refine (hasForm_any _ P1 _ (HV.out.below (by (repeat (first | exact Below.refl _ _ | refine Below.setCell ?_ (by first | (simp; done) | (simp; omega) | omega) _ | refine belowN ?_ _ | refine Below.drew ?_ | refine Below.alloc ?_ (by first | (simp; done) | (simp; omega) | omega) _ | refine Below.trans ?_ (Below.mono (by assumption) (by first | (simp; done) | (simp; omega) | omega))))))).mono ?_
  rintro e w1 ⟨rfl, hb1⟩
  have B1 : Below w.heap.size w w1 := by (repeat (first | exact Below.refl _ _ | refine Below.setCell ?_ (by first | (simp; done) | (simp; omega) | omega) _ | refine belowN ?_ _ | refine Below.drew ?_ | refine Below.alloc ?_ (by first | (simp; done) | (simp; omega) | omega) _ | refine Below.trans ?_ (Below.mono (by assumption) (by first | (simp; done) | (simp; omega) | omega))))
  have z1 := B1.size
  have a0 := (HA.out.below hb1).c0
  clear hb1
  cases hf : formB P1
  · have K := Lib.hid (poQ_no hf)
    go_wp2_with fail
    go_ret
    exact ⟨⟨_, rfl, by rw [K.out]; exact .inl ⟨rfl, rfl⟩⟩, B1⟩
  · have K := Lib.hid (poQ_yes hf)
    go_wp2_with fail
    go_loopw [3, 12] (fun v i wr => ∃ (k : Nat) (x : Value), k ≤ P1.length ∧ i = .int .i64 k ∧ x = v ∧ wr.ownsRow w.heap.size 87 2 x k (cRow 2 (qC P1) k) ∧ Below w.heap.size w wr) (fun _ i _ => P1.length - (intOf i).toNat)
    case atStart => exact ⟨0, _, by omega, rfl, rfl, World.ownsRow_nil _ _ _ _, B1⟩
    case round =>
      clear B1 z1 a0
      obtain ⟨k, x, hk, rfl, rfl, hown, hbw⟩ := hrel
      have sw := hbw.size
      by_cases hlt : k < P1.length
      · obtain ⟨b, off, rfl, H1⟩ := H0.out (by omega)
        obtain ⟨c0, c1, c2⟩ := H1 k hlt
        have c0 := cell_below hbw c0
        have c1 := cell_below hbw c1
        have c2 := cell_below hbw c2
        clear H1
        go_wp2_with (at_builtin; refine wpList_append_own _ rfl _ _ 94 rfl w.heap.size 87 i0 (.agg #[.int .i64 0, .int .i64 0]) 2 16 Tryd.underlying94 hi hz0 hz1 hz2 rfl (by decide) _ _ _ rfl ((hown.alloc _).alloc _) ⟨wr.heap.size + 1, 0, none⟩ 1 1 (cCells 2 (qC P1) k) rfl rfl (World.news_of_block (cs := #[.int .i64 (pX P1 k), .int .i64 (pY P1 k)]) (t := 87) (fr := (0, 0)) (heap_new2 wr _ _)) (cCells_one 2 (qC P1) k) (maxLen_of (by omega)) (by omega) (by simp; omega) ?_; intro v' w2 hown2 hgrow2 _)
        go_roundw
        case rel => exact ⟨k + 1, v', by omega, by go_num, rfl, hown2, ((hbw.alloc sw _).alloc (by simp; omega) _).grown hgrow2 (by simp; omega) (fun j hj => own_block_ge hown j hj)⟩
        case measure => simp [intOf]; omega
      · obtain rfl : k = P1.length := by omega
        go_wp2_with fail
        go_ret
        exact ⟨⟨_, rfl, by rw [K.out]; exact OwnC.of_row hown⟩, hbw⟩

end Go.Proofs.YtggpmailkkpdaaaDoor
