/-
  Reading a point, the program's. Conditions: the library's listed tables and errors stand as its text lays them, and its greatest length is some number.
-/
import Derived.Test.YtlfobdnjjbhehaaDoorRdPt
namespace Go.Proofs.YtlfobdnjjbhehaaDoor
open Go.RowKit

/-- The library's greatest length is some number. -/
def MaxI (w : World) : Prop := ∃ m, w.cell? ⟨1, 0, none⟩ = some (.int .i64 m)
theorem maxI_of {w : World} (h : w.ShapedOpen Tryd.prog) : MaxI w := Tryd.laysM145.s1_3 w h
theorem MaxI.lt {w : World} (h : MaxI w) : 1 < w.heap.size := by
  obtain ⟨m, hm⟩ := h
  exact World.block_lt_of_cell? w _ hm
theorem MaxI.below {W w : World} {B : Nat} (h : MaxI W) (hb : Below B W w) (h1 : 1 < B) : MaxI w := by
  obtain ⟨m, hm⟩ := h
  exact ⟨m, (hb.cell h1).trans hm⟩
theorem cut_any (s : ByteArray) (w : World) (hM : MaxI w) (hs : s.size ≤ 1048576) :
    Calls Tryd.prog 25 #[.string s, .string ⟨#[44]⟩] w fun e w' => e = .returned (.tuple #[.string ⟨(cl s).toArray⟩, .string ⟨(cr s).toArray⟩, .bool (Lib.cut s.data.toList [44]).2.2]) ∧ ∃ n, w' = w.drewN n := by
  obtain ⟨m, hm⟩ := hM
  exact Any.strings_Cut { Tryd.laysM145 with } s ⟨#[44]⟩ m w (by omega) hm
set_option maxHeartbeats 1000000 in
set_option maxRecDepth 100000 in
theorem implRp_any (s : ByteArray) (w : World) (hmax : s.size ≤ 1048576) (hT : Tab w) (hE : Errs w) (hM : MaxI w) :
    Calls Tryd.prog 12 #[.string s] w fun e w' => e = .returned (.tuple #[.agg #[.int .i64 (rpX s), .int .i64 (rpY s)], .bool (rpB s)]) ∧ Below w.heap.size w w' := by
  have hcl : (cl s).length ≤ 1048576 := by
    have h2 := list_len s
    have h3 : (cl s).length ≤ s.data.toList.length := by unfold cl Lib.cut; split <;> simp <;> omega
    omega
  have hcr : (cr s).length ≤ 1048576 := by
    have h2 := list_len s
    have h3 : (cr s).length ≤ s.data.toList.length := by unfold cr Lib.cut; split <;> simp <;> omega
    omega
  have R1 : ∀ w, Tab w → Errs w → Calls Tryd.prog 26 #[.string ⟨(cl s).toArray⟩] w fun e w' => e = .returned (.tuple #[.int .i64 (rdR (cl s)), .bool (rdB (cl s))]) ∧ Below w.heap.size w w' := fun w hT hE =>
    implRead_any ⟨(cl s).toArray⟩ w hT hE (show (cl s).length ≤ _ by omega)
  have R2 : ∀ w, Tab w → Errs w → Calls Tryd.prog 26 #[.string ⟨(cr s).toArray⟩] w fun e w' => e = .returned (.tuple #[.int .i64 (rdR (cr s)), .bool (rdB (cr s))]) ∧ Below w.heap.size w w' := fun w hT hE =>
    implRead_any ⟨(cr s).toArray⟩ w hT hE (show (cr s).length ≤ _ by omega)
  have S := fun w hM => cut_any s w hM hmax
  have K1 := Lib.hid (rp_no (s := s))
  have K2 := Lib.hid (rp_yes (s := s))
  have K3 := Lib.hid (rp_false (s := s))
  have K4 := Lib.hid (rp_true (s := s))
  clear hcl hcr
  generalize rdR (cl s) = x at *
  generalize rdR (cr s) = y at *
  generalize rdB (cl s) = p at *
  generalize rdB (cr s) = q at *
  have hlt := hT.lt
  have l1 := hE.lt1
  have l2 := hE.lt2
  have l3 := hM.lt
  have HT := Lib.hid hT
  have HE := Lib.hid hE
  have HM := Lib.hid hM
  clear hT hE hM
  go_enter Tryd.func12, Tryd.ntmps12
  go_wp2_with fail
  refine (S _ (HM.out.below (B := w.heap.size) (by (repeat (first | exact Below.refl _ _ | refine Below.setCell ?_ (by first | (simp; done) | (simp; omega) | omega) _ | refine belowN ?_ _ | refine Below.drew ?_ | refine Below.alloc ?_ (by first | (simp; done) | (simp; omega) | omega) _ | refine Below.trans ?_ (Below.mono (by assumption) (by first | (simp; done) | (simp; omega) | omega))))) l3)).mono ?_
  rintro e w1 ⟨rfl, n, rfl⟩
  clear S
  go_wp2_with fail
  refine (R1 _ (HT.out.below (B := w.heap.size) (by (repeat (first | exact Below.refl _ _ | refine Below.setCell ?_ (by first | (simp; done) | (simp; omega) | omega) _ | refine belowN ?_ _ | refine Below.drew ?_ | refine Below.alloc ?_ (by first | (simp; done) | (simp; omega) | omega) _ | refine Below.trans ?_ (Below.mono (by assumption) (by first | (simp; done) | (simp; omega) | omega))))) hlt) (HE.out.below (B := w.heap.size) (by (repeat (first | exact Below.refl _ _ | refine Below.setCell ?_ (by first | (simp; done) | (simp; omega) | omega) _ | refine belowN ?_ _ | refine Below.drew ?_ | refine Below.alloc ?_ (by first | (simp; done) | (simp; omega) | omega) _ | refine Below.trans ?_ (Below.mono (by assumption) (by first | (simp; done) | (simp; omega) | omega))))) l1 l2)).mono ?_
  rintro e w2 ⟨rfl, hb2⟩
  obtain ⟨d0, d1, x0, x1⟩ := Two.below (b := w.heap.size) (x := .int .i64 0) (y := .int .i64 0) ⟨by simp [go_sem], by simp [go_sem], by simp [go_sem], by simp [go_sem]⟩ hb2
  have s2 : w.heap.size + 1 ≤ w2.heap.size := by have := hb2.size; simp at this; omega
  go_wp2_with fail
  refine (R2 _ (HT.out.below (B := w.heap.size) (by (repeat (first | exact Below.refl _ _ | refine Below.setCell ?_ (by first | (simp; done) | (simp; omega) | omega) _ | refine belowN ?_ _ | refine Below.drew ?_ | refine Below.alloc ?_ (by first | (simp; done) | (simp; omega) | omega) _ | refine Below.trans ?_ (Below.mono (by assumption) (by first | (simp; done) | (simp; omega) | omega))))) hlt) (HE.out.below (B := w.heap.size) (by (repeat (first | exact Below.refl _ _ | refine Below.setCell ?_ (by first | (simp; done) | (simp; omega) | omega) _ | refine belowN ?_ _ | refine Below.drew ?_ | refine Below.alloc ?_ (by first | (simp; done) | (simp; omega) | omega) _ | refine Below.trans ?_ (Below.mono (by assumption) (by first | (simp; done) | (simp; omega) | omega))))) l1 l2)).mono ?_
  rintro e w3 ⟨rfl, hb3⟩
  obtain ⟨c0, c1, z0, z1⟩ := Two.below (b := w.heap.size) (x := .int .i64 0) (y := .int .i64 0) ⟨d0, d1, x0, x1⟩ hb3
  have s3 := hb3.size
  have s4 : w.heap.size < w3.heap.size := by omega
  clear d0 d1 x0 x1 R1 R2 HT HE HM
  cases p
  · have K : Hid (rpB s = false ∧ rpX s = 0 ∧ rpY s = 0) := Lib.hid ⟨K1.out (Or.inl rfl), K3.out (K1.out (Or.inl rfl))⟩
    clear K1 K2 K3 K4
    go_wp2
    refine bodyPost_ret (v := .tuple #[.agg #[.int .i64 0, .int .i64 0], .bool false]) (by simp [results, Tryd.results12, go_sem, c0, c1, s4]) rfl ⟨?_, ?_⟩
    · exact ret_rp K.out.2.1.symm K.out.2.2.symm K.out.1.symm
    · (repeat (first | exact Below.refl _ _ | refine Below.setCell ?_ (by first | (simp; done) | (simp; omega) | omega) _ | refine belowN ?_ _ | refine Below.drew ?_ | refine Below.alloc ?_ (by first | (simp; done) | (simp; omega) | omega) _ | refine Below.trans ?_ (Below.mono (by assumption) (by first | (simp; done) | (simp; omega) | omega))))
  · cases q
    · have K : Hid (rpB s = false ∧ rpX s = 0 ∧ rpY s = 0) := Lib.hid ⟨K1.out (Or.inr rfl), K3.out (K1.out (Or.inr rfl))⟩
      clear K1 K2 K3 K4
      go_wp2
      refine bodyPost_ret (v := .tuple #[.agg #[.int .i64 0, .int .i64 0], .bool false]) (by simp [results, Tryd.results12, go_sem, c0, c1, s4]) rfl ⟨?_, ?_⟩
      · exact ret_rp K.out.2.1.symm K.out.2.2.symm K.out.1.symm
      · (repeat (first | exact Below.refl _ _ | refine Below.setCell ?_ (by first | (simp; done) | (simp; omega) | omega) _ | refine belowN ?_ _ | refine Below.drew ?_ | refine Below.alloc ?_ (by first | (simp; done) | (simp; omega) | omega) _ | refine Below.trans ?_ (Below.mono (by assumption) (by first | (simp; done) | (simp; omega) | omega))))
    · have K0 := K2.out rfl rfl
      cases h : ptB x y
      · have K : Hid (rpB s = false ∧ rpX s = 0 ∧ rpY s = 0) := Lib.hid ⟨K0.trans h, K3.out (K0.trans h)⟩
        clear K1 K2 K3 K4 K0
        go_wp2_with fail
        refine (implValidPoint_any x y _).mono ?_
        rintro e w4 ⟨rfl, hb4⟩
        obtain ⟨d0, d1, x0, x1⟩ := Two.below (b := w.heap.size) (x := .int .i64 0) (y := .int .i64 0) ⟨by simp [go_sem, c0, s4], by simp [go_sem, c1, s4], by simp [go_sem, z0, s4], by simp [go_sem, z1, s4]⟩ hb4
        obtain ⟨f0, f1, u0, u1⟩ := Two.below (b := w3.heap.size) (x := .int .i64 x) (y := .int .i64 y) ⟨by simp [go_sem], by simp [go_sem], by simp [go_sem], by simp [go_sem]⟩ hb4
        have s5 : w3.heap.size + 1 ≤ w4.heap.size := by have := hb4.size; simp at this; omega
        clear c0 c1 z0 z1
        go_wp2
        refine bodyPost_ret (v := .tuple #[.agg #[.int .i64 0, .int .i64 0], .bool false]) (by simp [results, Tryd.results12, go_sem, d0, d1]) rfl ⟨?_, ?_⟩
        · exact ret_rp K.out.2.1.symm K.out.2.2.symm K.out.1.symm
        · (repeat (first | exact Below.refl _ _ | refine Below.setCell ?_ (by first | (simp; done) | (simp; omega) | omega) _ | refine belowN ?_ _ | refine Below.drew ?_ | refine Below.alloc ?_ (by first | (simp; done) | (simp; omega) | omega) _ | refine Below.trans ?_ (Below.mono (by assumption) (by first | (simp; done) | (simp; omega) | omega))))
      · have K : Hid (rpB s = true ∧ rpX s = x ∧ rpY s = y) := Lib.hid ⟨K0.trans h, K4.out (K0.trans h)⟩
        clear K1 K2 K3 K4 K0
        go_wp2_with fail
        refine (implValidPoint_any x y _).mono ?_
        rintro e w4 ⟨rfl, hb4⟩
        obtain ⟨d0, d1, x0, x1⟩ := Two.below (b := w.heap.size) (x := .int .i64 0) (y := .int .i64 0) ⟨by simp [go_sem, c0, s4], by simp [go_sem, c1, s4], by simp [go_sem, z0, s4], by simp [go_sem, z1, s4]⟩ hb4
        obtain ⟨f0, f1, u0, u1⟩ := Two.below (b := w3.heap.size) (x := .int .i64 x) (y := .int .i64 y) ⟨by simp [go_sem], by simp [go_sem], by simp [go_sem], by simp [go_sem]⟩ hb4
        have s5 : w3.heap.size + 1 ≤ w4.heap.size := by have := hb4.size; simp at this; omega
        clear c0 c1 z0 z1
        go_wp2
        refine bodyPost_ret (v := .tuple #[.agg #[.int .i64 x, .int .i64 y], .bool true]) (by simp [results, Tryd.results12, go_sem, d0, d1]) rfl ⟨?_, ?_⟩
        · exact ret_rp K.out.2.1.symm K.out.2.2.symm K.out.1.symm
        · (repeat (first | exact Below.refl _ _ | refine Below.setCell ?_ (by first | (simp; done) | (simp; omega) | omega) _ | refine belowN ?_ _ | refine Below.drew ?_ | refine Below.alloc ?_ (by first | (simp; done) | (simp; omega) | omega) _ | refine Below.trans ?_ (Below.mono (by assumption) (by first | (simp; done) | (simp; omega) | omega))))
end Go.Proofs.YtlfobdnjjbhehaaDoor
