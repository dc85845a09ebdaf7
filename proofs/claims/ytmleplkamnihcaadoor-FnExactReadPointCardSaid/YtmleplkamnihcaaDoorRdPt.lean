/-
  Reading a point, the model's: what it answers, for every text no longer than 2^20. Conditions: none.
-/
import Derived.Test.YtmleplkamnihcaaDoorSplit2
namespace Go.Proofs.YtmleplkamnihcaaDoor
open Go.RowKit

theorem rp_false {s : ByteArray} (h : rpB s = false) : rpX s = 0 ∧ rpY s = 0 := by unfold rpX rpY; rw [h]; exact ⟨rfl, rfl⟩
theorem rp_true {s : ByteArray} (h : rpB s = true) : rpX s = rdR (cl s) ∧ rpY s = rdR (cr s) := by unfold rpX rpY; rw [h]; exact ⟨rfl, rfl⟩
theorem rp_no {s : ByteArray} (h : rdB (cl s) = false ∨ rdB (cr s) = false) : rpB s = false := by
  unfold rpB
  rcases h with h | h <;> rw [h]
  · rfl
  · exact Bool.and_false _
theorem rp_yes {s : ByteArray} (h1 : rdB (cl s) = true) (h2 : rdB (cr s) = true) : rpB s = ptB (rdR (cl s)) (rdR (cr s)) := by unfold rpB; rw [h1, h2]; rfl
theorem ret_rp {a b x y : Int} {c z : Bool} (h : a = x) (k : b = y) (l : c = z) : Ending.returned (.tuple #[.agg #[.int .i64 a, .int .i64 b], .bool c]) = .returned (.tuple #[.agg #[.int .i64 x, .int .i64 y], .bool z]) := by rw [h, k, l]

theorem own_two {w : World} {B : Nat} {v a b : Value} (h : w.ownsRow B 9 1 v 2 [a, b]) : ∃ g cap, v = .slice (some ⟨g, 0, none⟩) 2 cap ∧ B ≤ g ∧ g < w.heap.size ∧ w.cell? ⟨g, 0, none⟩ = some a ∧ w.cell? ⟨g, 1, none⟩ = some b := by
  rcases h.2 with ⟨_, h2⟩ | ⟨g, cap, cur, rfl, hb, hg, -⟩
  · cases h2
  · exact ⟨g, cap, rfl, hb, (Array.getElem?_eq_some_iff.1 hg).1, h.cellAt 0 (by omega), h.cellAt 1 (by omega)⟩
theorem own_len {w : World} {B n : Nat} {v : Value} {xs : List Value} (h : w.ownsRow B 9 1 v n xs) (hn : n ≠ 0) : ∃ g cap, v = .slice (some ⟨g, 0, none⟩) n cap := by
  rcases h.2 with ⟨_, h2⟩ | ⟨g, cap, cur, rfl, -⟩
  · exact absurd h2 hn
  · exact ⟨g, cap, rfl⟩

set_option maxHeartbeats 1000000 in
set_option maxRecDepth 100000 in
theorem specRp_len (s : ByteArray) (w : World) (hmax : s.size ≤ 1048576) (hl : (pcs s).length ≠ 2) (hc : rdB (cr s) = false) :
    Calls Tryd.prog 29 #[.string s] w fun e w' => e = .returned (.tuple #[.agg #[.int .i64 (rpX s), .int .i64 (rpY s)], .bool (rpB s)]) ∧ Below w.heap.size w w' := by
  have K := Lib.hid (And.intro (rp_no (Or.inr hc)) (rp_false (rp_no (Or.inr hc))))
  have hne : (pcs s).length ≠ 0 := by unfold pcs; rw [List.length_append]; simp
  have hl' : ¬ ((pcs s).length : Int) = 2 := by omega
  go_enter Tryd.func29, Tryd.ntmps29
  go_wp2_with fail
  refine (l01Split_any s _ hmax).mono ?_
  rintro e w1 ⟨v, rfl, hown, hb1⟩
  obtain ⟨g, cap, rfl⟩ := own_len hown hne
  clear hown
  obtain ⟨c0, c1, z0, z1⟩ := Two.below (b := w.heap.size) (x := .int .i64 0) (y := .int .i64 0) ⟨by simp [go_sem], by simp [go_sem], by simp [go_sem], by simp [go_sem]⟩ hb1
  have s1 := hb1.size
  simp at s1
  go_wp2
  refine bodyPost_ret (v := .tuple #[.agg #[.int .i64 0, .int .i64 0], .bool false]) (by simp [results, Tryd.results29, go_sem, c0, c1]) rfl ⟨?_, ?_⟩
  · exact ret_rp K.out.2.1.symm K.out.2.2.symm K.out.1.symm
  · (repeat (first | exact Below.refl _ _ | refine Below.setCell ?_ (by first | (simp; done) | (simp; omega) | omega) _ | refine belowN ?_ _ | refine Below.drew ?_ | refine Below.alloc ?_ (by first | (simp; done) | (simp; omega) | omega) _ | refine Below.trans ?_ (Below.mono (by assumption) (by first | (simp; done) | (simp; omega) | omega))))

set_option maxHeartbeats 2000000 in
set_option maxRecDepth 100000 in
theorem specRp_two (s a b : ByteArray) (w : World) (hmax : s.size ≤ 1048576) (hp : pcs s = [a, b]) (ha : a.data.toList = cl s) (hb : b.data.toList = cr s) :
    Calls Tryd.prog 29 #[.string s] w fun e w' => e = .returned (.tuple #[.agg #[.int .i64 (rpX s), .int .i64 (rpY s)], .bool (rpB s)]) ∧ Below w.heap.size w w' := by
  have hsa : a.size ≤ 1048576 := by
    have h1 := list_len a
    have h2 := list_len s
    have h3 : (cl s).length ≤ s.data.toList.length := by unfold cl Lib.cut; split <;> simp <;> omega
    rw [ha] at h1
    omega
  have hsb : b.size ≤ 1048576 := by
    have h1 := list_len b
    have h2 := list_len s
    have h3 : (cr s).length ≤ s.data.toList.length := by unfold cr Lib.cut; split <;> simp <;> omega
    rw [hb] at h1
    omega
  have R1 : ∀ w, Calls Tryd.prog 17 #[.string a] w fun e w' => e = .returned (.tuple #[.int .i64 (rdR (cl s)), .bool (rdB (cl s))]) ∧ Below w.heap.size w w' := fun w => by
    have h := specRead_any a w (by omega); rw [ha] at h; exact h
  have R2 : ∀ w, Calls Tryd.prog 17 #[.string b] w fun e w' => e = .returned (.tuple #[.int .i64 (rdR (cr s)), .bool (rdB (cr s))]) ∧ Below w.heap.size w w' := fun w => by
    have h := specRead_any b w (by omega); rw [hb] at h; exact h
  have S := fun w => l01Split_any s w hmax
  rw [hp] at S
  have K1 := Lib.hid (rp_no (s := s))
  have K2 := Lib.hid (rp_yes (s := s))
  have K3 := Lib.hid (rp_false (s := s))
  have K4 := Lib.hid (rp_true (s := s))
  clear ha hb hp
  generalize rdR (cl s) = x at *
  generalize rdR (cr s) = y at *
  generalize rdB (cl s) = p at *
  generalize rdB (cr s) = q at *
  go_enter Tryd.func29, Tryd.ntmps29
  go_wp2_with fail
  refine (S _).mono ?_
  rintro e w1 ⟨v, rfl, hown, hb1⟩
  obtain ⟨g, cap, rfl, hg1, hg2, g0, g1⟩ := own_two hown
  clear hown
  obtain ⟨c0, c1, z0, z1⟩ := Two.below (b := w.heap.size) (x := .int .i64 0) (y := .int .i64 0) ⟨by simp [go_sem], by simp [go_sem], by simp [go_sem], by simp [go_sem]⟩ hb1
  have s1 := hb1.size
  simp at s1 hg1
  go_wp2_with fail
  refine (R1 _).mono ?_
  rintro e w2 ⟨rfl, hb2⟩
  obtain ⟨d0, d1, x0, x1⟩ := Two.below (b := w.heap.size) (x := .int .i64 0) (y := .int .i64 0) ⟨c0, c1, z0, z1⟩ hb2
  have k1 := bkeep hb2 g1
  have s2 := hb2.size
  clear c0 c1 z0 z1 g0 g1
  go_wp2_with fail
  refine (R2 _).mono ?_
  rintro e w3 ⟨rfl, hb3⟩
  obtain ⟨c0, c1, z0, z1⟩ := Two.below (b := w.heap.size) (x := .int .i64 0) (y := .int .i64 0) ⟨d0, d1, x0, x1⟩ hb3
  have s3 := hb3.size
  have s4 : w.heap.size < w3.heap.size := by omega
  clear d0 d1 x0 x1 k1
  cases p
  · clear R1 R2
    have K : Hid (rpB s = false ∧ rpX s = 0 ∧ rpY s = 0) := Lib.hid ⟨K1.out (Or.inl rfl), K3.out (K1.out (Or.inl rfl))⟩
    clear K1 K2 K3 K4
    go_wp2
    refine bodyPost_ret (v := .tuple #[.agg #[.int .i64 0, .int .i64 0], .bool false]) (by simp [results, Tryd.results29, go_sem, c0, c1, s4]) rfl ⟨?_, ?_⟩
    · exact ret_rp K.out.2.1.symm K.out.2.2.symm K.out.1.symm
    · (repeat (first | exact Below.refl _ _ | refine Below.setCell ?_ (by first | (simp; done) | (simp; omega) | omega) _ | refine belowN ?_ _ | refine Below.drew ?_ | refine Below.alloc ?_ (by first | (simp; done) | (simp; omega) | omega) _ | refine Below.trans ?_ (Below.mono (by assumption) (by first | (simp; done) | (simp; omega) | omega))))
  · cases q
    · clear R1 R2
      have K : Hid (rpB s = false ∧ rpX s = 0 ∧ rpY s = 0) := Lib.hid ⟨K1.out (Or.inr rfl), K3.out (K1.out (Or.inr rfl))⟩
      clear K1 K2 K3 K4
      go_wp2
      refine bodyPost_ret (v := .tuple #[.agg #[.int .i64 0, .int .i64 0], .bool false]) (by simp [results, Tryd.results29, go_sem, c0, c1, s4]) rfl ⟨?_, ?_⟩
      · exact ret_rp K.out.2.1.symm K.out.2.2.symm K.out.1.symm
      · (repeat (first | exact Below.refl _ _ | refine Below.setCell ?_ (by first | (simp; done) | (simp; omega) | omega) _ | refine belowN ?_ _ | refine Below.drew ?_ | refine Below.alloc ?_ (by first | (simp; done) | (simp; omega) | omega) _ | refine Below.trans ?_ (Below.mono (by assumption) (by first | (simp; done) | (simp; omega) | omega))))
    · clear R1 R2
      have K0 := K2.out rfl rfl
      cases h : ptB x y
      · have K : Hid (rpB s = false ∧ rpX s = 0 ∧ rpY s = 0) := Lib.hid ⟨K0.trans h, K3.out (K0.trans h)⟩
        clear K1 K2 K3 K4 K0
        go_wp2_with fail
        refine (l01Point_any x y _).mono ?_
        rintro e w4 ⟨rfl, hb4⟩
        obtain ⟨d0, d1, x0, x1⟩ := Two.below (b := w.heap.size) (x := .int .i64 0) (y := .int .i64 0) ⟨by simp [go_sem, c0, s4], by simp [go_sem, c1, s4], by simp [go_sem, z0, s4], by simp [go_sem, z1, s4]⟩ hb4
        obtain ⟨f0, f1, u0, u1⟩ := Two.below (b := w3.heap.size) (x := .int .i64 x) (y := .int .i64 y) ⟨by simp [go_sem], by simp [go_sem], by simp [go_sem], by simp [go_sem]⟩ hb4
        have s5 : w3.heap.size + 1 ≤ w4.heap.size := by have := hb4.size; simp at this; omega
        clear c0 c1 z0 z1
        go_wp2
        refine bodyPost_ret (v := .tuple #[.agg #[.int .i64 0, .int .i64 0], .bool false]) (by simp [results, Tryd.results29, go_sem, d0, d1]) rfl ⟨?_, ?_⟩
        · exact ret_rp K.out.2.1.symm K.out.2.2.symm K.out.1.symm
        · (repeat (first | exact Below.refl _ _ | refine Below.setCell ?_ (by first | (simp; done) | (simp; omega) | omega) _ | refine belowN ?_ _ | refine Below.drew ?_ | refine Below.alloc ?_ (by first | (simp; done) | (simp; omega) | omega) _ | refine Below.trans ?_ (Below.mono (by assumption) (by first | (simp; done) | (simp; omega) | omega))))
      · have K : Hid (rpB s = true ∧ rpX s = x ∧ rpY s = y) := Lib.hid ⟨K0.trans h, K4.out (K0.trans h)⟩
        clear K1 K2 K3 K4 K0
        go_wp2_with fail
        refine (l01Point_any x y _).mono ?_
        rintro e w4 ⟨rfl, hb4⟩
        obtain ⟨d0, d1, x0, x1⟩ := Two.below (b := w.heap.size) (x := .int .i64 0) (y := .int .i64 0) ⟨by simp [go_sem, c0, s4], by simp [go_sem, c1, s4], by simp [go_sem, z0, s4], by simp [go_sem, z1, s4]⟩ hb4
        obtain ⟨f0, f1, u0, u1⟩ := Two.below (b := w3.heap.size) (x := .int .i64 x) (y := .int .i64 y) ⟨by simp [go_sem], by simp [go_sem], by simp [go_sem], by simp [go_sem]⟩ hb4
        have s5 : w3.heap.size + 1 ≤ w4.heap.size := by have := hb4.size; simp at this; omega
        clear c0 c1 z0 z1
        go_wp2
        refine bodyPost_ret (v := .tuple #[.agg #[.int .i64 x, .int .i64 y], .bool true]) (by simp [results, Tryd.results29, go_sem, d0, d1]) rfl ⟨?_, ?_⟩
        · exact ret_rp K.out.2.1.symm K.out.2.2.symm K.out.1.symm
        · (repeat (first | exact Below.refl _ _ | refine Below.setCell ?_ (by first | (simp; done) | (simp; omega) | omega) _ | refine belowN ?_ _ | refine Below.drew ?_ | refine Below.alloc ?_ (by first | (simp; done) | (simp; omega) | omega) _ | refine Below.trans ?_ (Below.mono (by assumption) (by first | (simp; done) | (simp; omega) | omega))))
theorem specRp_any (s : ByteArray) (w : World) (hmax : s.size ≤ 1048576) :
    Calls Tryd.prog 29 #[.string s] w fun e w' => e = .returned (.tuple #[.agg #[.int .i64 (rpX s), .int .i64 (rpY s)], .bool (rpB s)]) ∧ Below w.heap.size w w' := by
  rcases split_cut s with ⟨a, b, hp, ha, hb⟩ | ⟨hl, hc⟩
  · exact specRp_two s a b w hmax hp ha hb
  · exact specRp_len s w hmax hl hc
end Go.Proofs.YtmleplkamnihcaaDoor
