/-
  FirstDifference, the model's and the program's. Conditions: each theorem's own.
-/
import Derived.Test.YtcaidemlhgepfaaWithin
namespace Go.Proofs.Ytcaidemlhgepfaa
open Go.RowKit Go.Maps

/-- The second assembly has another tile where the first has its k-th. -/
def fdA (P Q : List Pl) (k : Nat) : Prop := 0 ≤ atI Q (pX P k) (pY P k) ∧ ¬ atI Q (pX P k) (pY P k) = pT P k
open Classical in
noncomputable def fdI (P Q : List Pl) : Nat := if h : ∃ k, k < P.length ∧ fdA P Q k ∧ ∀ j, j < k → ¬ fdA P Q j then h.choose else P.length
theorem fdI_yes {P Q : List Pl} {k : Nat} (hk : k < P.length) (h : fdA P Q k) (hn : ∀ j, j < k → ¬ fdA P Q j) : fdI P Q = k := by
  have hx : ∃ k, k < P.length ∧ fdA P Q k ∧ ∀ j, j < k → ¬ fdA P Q j := ⟨k, hk, h, hn⟩
  unfold fdI
  rw [dif_pos hx]
  obtain ⟨a, b, c⟩ := hx.choose_spec
  rcases Nat.lt_trichotomy hx.choose k with g | g | g
  · exact absurd b (hn _ g)
  · exact g
  · exact absurd h (c _ g)
theorem fdI_no {P Q : List Pl} (hn : ∀ j, j < P.length → ¬ fdA P Q j) : fdI P Q = P.length := by
  unfold fdI
  rw [dif_neg]
  rintro ⟨k, hk, h, -⟩
  exact hn k hk h
noncomputable def fdC (P Q : List Pl) : Int := if formB P = true ∧ formB Q = true then (if fdI P Q < P.length then 0 else 3) else 1
noncomputable def fdX (P Q : List Pl) : Int := if fdC P Q = 0 then pX P (fdI P Q) else 0
noncomputable def fdY (P Q : List Pl) : Int := if fdC P Q = 0 then pY P (fdI P Q) else 0
/-- What FirstDifference returns. -/
noncomputable def fdR (P Q : List Pl) : Value := .tuple #[.agg #[.int .i64 (fdX P Q), .int .i64 (fdY P Q)], .int .i64 (fdC P Q)]
theorem fdR_p {P Q : List Pl} (h : formB P = false) : fdR P Q = .tuple #[.agg #[.int .i64 0, .int .i64 0], .int .i64 1] := by simp [fdR, fdX, fdY, fdC, h]
theorem fdR_q {P Q : List Pl} (h : formB Q = false) : fdR P Q = .tuple #[.agg #[.int .i64 0, .int .i64 0], .int .i64 1] := by simp [fdR, fdX, fdY, fdC, h]
theorem fdR_3 {P Q : List Pl} (h : formB P = true) (g : formB Q = true) (hn : ∀ j, j < P.length → ¬ fdA P Q j) : fdR P Q = .tuple #[.agg #[.int .i64 0, .int .i64 0], .int .i64 3] := by simp [fdR, fdX, fdY, fdC, h, g, fdI_no hn]
theorem fdR_0 {P Q : List Pl} (h : formB P = true) (g : formB Q = true) {k : Nat} (hk : k < P.length) (ha : fdA P Q k) (hn : ∀ j, j < k → ¬ fdA P Q j) : fdR P Q = .tuple #[.agg #[.int .i64 (pX P k), .int .i64 (pY P k)], .int .i64 0] := by simp [fdR, fdX, fdY, fdC, h, g, fdI_yes hk ha hn, hk]

/-- What the method firstDifference returns. -/
noncomputable def fdM (P Q : List Pl) : Value := if fdI P Q < P.length then .tuple #[.agg #[.int .i64 (pX P (fdI P Q)), .int .i64 (pY P (fdI P Q))], .bool true] else .tuple #[.agg #[.int .i64 0, .int .i64 0], .bool false]
theorem fdM_1 {P Q : List Pl} (h : fdI P Q < P.length) : fdM P Q = .tuple #[.agg #[.int .i64 (pX P (fdI P Q)), .int .i64 (pY P (fdI P Q))], .bool true] := if_pos h
theorem fdM_0 {P Q : List Pl} (h : ¬ fdI P Q < P.length) : fdM P Q = .tuple #[.agg #[.int .i64 0, .int .i64 0], .bool false] := if_neg h
/-- The boxes of two assemblies and one of a point. -/
theorem boxes_f (w : World) (u v : Value) (t1 t2 t3 : TypeId) : At1 (((w.alloc (.cells #[u] t1)).alloc (.cells #[v] t2)).alloc (.cells #[.int .i64 0, .int .i64 0] t3)) w.heap.size u ∧
    At1 (((w.alloc (.cells #[u] t1)).alloc (.cells #[v] t2)).alloc (.cells #[.int .i64 0, .int .i64 0] t3)) (w.heap.size + 1) v ∧
    Two (((w.alloc (.cells #[u] t1)).alloc (.cells #[v] t2)).alloc (.cells #[.int .i64 0, .int .i64 0] t3)) (w.heap.size + 1 + 1) (.int .i64 0) (.int .i64 0) :=
  ⟨(boxes_aa w u v t1 t2).1.below (by (repeat (first | exact Below.refl _ _ | refine Below.setCell ?_ (by first | (simp; done) | (simp; omega) | omega) _ | refine belowN ?_ _ | refine Below.drew ?_ | refine Below.alloc ?_ (by first | (simp; done) | (simp; omega) | omega) _ | refine Below.trans ?_ (Below.mono (by assumption) (by first | (simp; done) | (simp; omega) | omega))))), (boxes_aa w u v t1 t2).2.below (by (repeat (first | exact Below.refl _ _ | refine Below.setCell ?_ (by first | (simp; done) | (simp; omega) | omega) _ | refine belowN ?_ _ | refine Below.drew ?_ | refine Below.alloc ?_ (by first | (simp; done) | (simp; omega) | omega) _ | refine Below.trans ?_ (Below.mono (by assumption) (by first | (simp; done) | (simp; omega) | omega))))), Two.new (n := w.heap.size + 1 + 1) _ _ _ _ (by simp)⟩

set_option maxRecDepth 100000 in
set_option maxHeartbeats 2000000 in
set_option linter.unusedSimpArgs false in
theorem specFirst_any (v1 : Value) (P1 : List Pl) (v2 : Value) (P2 : List Pl) (w : World) (h1 : Plcs w v1 P1) (_s1 : ∃ a k q, v1 = .slice (some a) k q) (_o1 : ∀ p ∈ P1, p.ok) (_m1 : P1.length ≤ 1048576) (h2 : Plcs w v2 P2) (_s2 : ∃ a k q, v2 = .slice (some a) k q) (_o2 : ∀ p ∈ P2, p.ok) (_m2 : P2.length ≤ 1048576) :
    Calls Try.prog 41 #[.agg #[v1], .agg #[v2]] w fun e w' => e = .returned (fdR P1 P2) ∧ Below w.heap.size w w' := by
  have HU := Lib.hid h1
  have HV := Lib.hid h2
  obtain ⟨ao, cap, rfl, hl, hm, hc⟩ := h1.open_
  obtain ⟨bo, cap2, rfl, -, -, -⟩ := h2.open_
  unfold maxLen at hm
  have H0 := Lib.hid hc
  have HB := Lib.hid (boxes_f w (.slice ao P1.length cap) (.slice bo P2.length cap2) 29 29 36)
  clear h1 h2 hc
  go_enter Try.func41, Try.ntmps41
  go_wp2_with fail
  refine (l03Form_any _ _ P1 _ HB.out.1 (HU.out.below (by (repeat (first | exact Below.refl _ _ | refine Below.setCell ?_ (by first | (simp; done) | (simp; omega) | omega) _ | refine belowN ?_ _ | refine Below.drew ?_ | refine Below.alloc ?_ (by first | (simp; done) | (simp; omega) | omega) _ | refine Below.trans ?_ (Below.mono (by assumption) (by first | (simp; done) | (simp; omega) | omega))))))).mono ?_
  rintro e w1 ⟨rfl, hb1⟩
  have B1 : Below w.heap.size w w1 := by (repeat (first | exact Below.refl _ _ | refine Below.setCell ?_ (by first | (simp; done) | (simp; omega) | omega) _ | refine belowN ?_ _ | refine Below.drew ?_ | refine Below.alloc ?_ (by first | (simp; done) | (simp; omega) | omega) _ | refine Below.trans ?_ (Below.mono (by assumption) (by first | (simp; done) | (simp; omega) | omega))))
  have z1 := B1.size
  have A1 := Lib.hid (HB.out.1.below hb1)
  have E1 := Lib.hid (HB.out.2.1.below hb1)
  have R1 := Lib.hid (HB.out.2.2.below hb1)
  clear hb1
  cases hf : formB P1
  · have K := Lib.hid (fdR_p (Q := P2) hf)
    obtain ⟨x0, x1, zx0, zx1⟩ := R1.out
    go_wp2_with fail
    refine bodyPost_ret (v := fdR P1 P2) ?_ rfl ⟨rfl, by (repeat (first | exact Below.refl _ _ | refine Below.setCell ?_ (by first | (simp; done) | (simp; omega) | omega) _ | refine belowN ?_ _ | refine Below.drew ?_ | refine Below.alloc ?_ (by first | (simp; done) | (simp; omega) | omega) _ | refine Below.trans ?_ (Below.mono (by assumption) (by first | (simp; done) | (simp; omega) | omega))))⟩
    rw [K.out]
    simp [results, Try.results41, go_sem, x0, x1]
  have HF := Lib.hid hf
  clear hf
  cases hg : formB P2
  · have K := Lib.hid (fdR_q (P := P1) hg)
    go_wp2_with fail
    refine (l03Form_any _ _ P2 _ E1.out (HV.out.below B1)).mono ?_
    rintro e w2 ⟨rfl, hb2⟩
    have B2 : Below w.heap.size w w2 := by (repeat (first | exact Below.refl _ _ | refine Below.setCell ?_ (by first | (simp; done) | (simp; omega) | omega) _ | refine belowN ?_ _ | refine Below.drew ?_ | refine Below.alloc ?_ (by first | (simp; done) | (simp; omega) | omega) _ | refine Below.trans ?_ (Below.mono (by assumption) (by first | (simp; done) | (simp; omega) | omega))))
    rw [hg]
    obtain ⟨x0, x1, zx0, zx1⟩ := R1.out.below hb2
    clear hb2
    go_wp2_with fail
    refine bodyPost_ret (v := fdR P1 P2) ?_ rfl ⟨rfl, by (repeat (first | exact Below.refl _ _ | refine Below.setCell ?_ (by first | (simp; done) | (simp; omega) | omega) _ | refine belowN ?_ _ | refine Below.drew ?_ | refine Below.alloc ?_ (by first | (simp; done) | (simp; omega) | omega) _ | refine Below.trans ?_ (Below.mono (by assumption) (by first | (simp; done) | (simp; omega) | omega))))⟩
    rw [K.out]
    simp [results, Try.results41, go_sem, x0, x1]
  have HG := Lib.hid hg
  have FF := Lib.hid (formB_iff.1 HF.out)
  have GG := Lib.hid (formB_iff.1 hg)
  have h500 := FF.out.len
  go_wp2_with fail
  refine (l03Form_any _ _ P2 _ E1.out (HV.out.below B1)).mono ?_
  rintro e w2 ⟨rfl, hb2⟩
  rw [hg]
  have B2 : Below w.heap.size w w2 := by (repeat (first | exact Below.refl _ _ | refine Below.setCell ?_ (by first | (simp; done) | (simp; omega) | omega) _ | refine belowN ?_ _ | refine Below.drew ?_ | refine Below.alloc ?_ (by first | (simp; done) | (simp; omega) | omega) _ | refine Below.trans ?_ (Below.mono (by assumption) (by first | (simp; done) | (simp; omega) | omega))))
  have z2 := B2.size
  have A2 := Lib.hid (A1.out.below hb2)
  have E2 := Lib.hid (E1.out.below hb2)
  have R2 := Lib.hid (R1.out.below hb2)
  clear hb2 hg A1 E1 R1
  go_wp2_with fail
  go_loopw [6] (fun i wr => ∃ k : Nat, k ≤ P1.length ∧ i = .int .i64 k ∧ Hid (∀ j, j < k → ¬ fdA P1 P2 j) ∧ Two wr (w.heap.size + 1 + 1) (.int .i64 0) (.int .i64 0) ∧ At1 wr w.heap.size (.slice ao P1.length cap) ∧ At1 wr (w.heap.size + 1) (.slice bo P2.length cap2) ∧ Below w.heap.size w wr) (fun i _ => P1.length - (intOf i).toNat)
  case atStart => exact ⟨0, by omega, rfl, Lib.hid (fun j hj => by omega), R2.out, A2.out, E2.out, B2⟩
  case round =>
    clear A2 E2 R2
    obtain ⟨k, hk, rfl, hall, ht, ha, he, hbw⟩ := hrel
    have sw := hbw.size
    have HT := Lib.hid ht
    have HA := Lib.hid ha
    have HE := Lib.hid he
    have a0 := ha.c0
    clear ha he
    by_cases hlt : k < P1.length
    · obtain ⟨b, off, rfl, H1⟩ := H0.out (by omega)
      obtain ⟨c0, c1, c2⟩ := H1 k hlt
      have c0 := cell_below hbw c0
      have c1 := cell_below hbw c1
      have c2 := cell_below hbw c2
      have hti := inB_iff.1 (FF.out.all k hlt).tl
      clear H1 ht
      obtain ⟨z, hz⟩ : ∃ z, z = atI P2 (pX P1 k) (pY P1 k) := ⟨_, rfl⟩
      have HZ := Lib.hid hz
      clear hz
      go_wp2_with fail
      refine (l03At_any _ _ P2 _ _ _ HE.out (HV.out.below (by (repeat (first | exact Below.refl _ _ | refine Below.setCell ?_ (by first | (simp; done) | (simp; omega) | omega) _ | refine belowN ?_ _ | refine Below.drew ?_ | refine Below.alloc ?_ (by first | (simp; done) | (simp; omega) | omega) _ | refine Below.trans ?_ (Below.mono (by assumption) (by first | (simp; done) | (simp; omega) | omega)))))) GG.out).mono ?_
      rintro e w3 ⟨rfl, hb3⟩
      rw [← HZ.out]
      have B3 : Below w.heap.size w w3 := by (repeat (first | exact Below.refl _ _ | refine Below.setCell ?_ (by first | (simp; done) | (simp; omega) | omega) _ | refine belowN ?_ _ | refine Below.drew ?_ | refine Below.alloc ?_ (by first | (simp; done) | (simp; omega) | omega) _ | refine Below.trans ?_ (Below.mono (by assumption) (by first | (simp; done) | (simp; omega) | omega))))
      have z3 := B3.size
      have hle : wr.heap.size ≤ w3.heap.size := by simpa [go_sem] using hb3.size
      have HT3 := Lib.hid (HT.out.below hb3)
      have HA3 := Lib.hid (HA.out.below hb3)
      have HE3 := Lib.hid (HE.out.below hb3)
      have d0 := HA3.out.c0
      obtain ⟨c0, c1, c2⟩ := (show w3.cell? ⟨b, off + k * 3, none⟩ = some (.int .i64 (pX P1 k)) ∧ w3.cell? ⟨b, off + k * 3 + 1, none⟩ = some (.int .i64 (pY P1 k)) ∧ w3.cell? ⟨b, off + k * 3 + 2, none⟩ = some (.int .i64 (pT P1 k)) from ⟨cell_below hb3 c0, cell_below hb3 c1, cell_below hb3 c2⟩)
      clear a0 hb3
      obtain ⟨x0, x1, zx0, zx1⟩ := HT3.out
      by_cases h0 : 0 ≤ z
      · by_cases he : z = pT P1 k
        · have HN := Lib.hid (show ¬ fdA P1 P2 k from fun a => a.2 (by rw [← HZ.out]; exact he))
          subst he
          go_wp2_with fail
          go_roundw
          case rel =>
            refine ⟨k + 1, by omega, by go_num, Lib.hid fun j hj => ?_, HT3.out, HA3.out, HE3.out, B3⟩
            by_cases hjk : j < k
            · exact hall.out j hjk
            · obtain rfl : j = k := by omega
              exact HN.out
          case measure => simp [intOf]; omega
        · have K := Lib.hid (fdR_0 HF.out HG.out hlt ⟨by rw [← HZ.out]; exact h0, by rw [← HZ.out]; exact he⟩ hall.out)
          have bn : (z == pT P1 k) = false := by rw [beq_eq_false_iff_ne]; exact he
          clear he
          go_wp2_with fail
          refine bodyPost_ret (v := fdR P1 P2) ?_ rfl ⟨rfl, by (repeat (first | exact Below.refl _ _ | refine Below.setCell ?_ (by first | (simp; done) | (simp; omega) | omega) _ | refine belowN ?_ _ | refine Below.drew ?_ | refine Below.alloc ?_ (by first | (simp; done) | (simp; omega) | omega) _ | refine Below.trans ?_ (Below.mono (by assumption) (by first | (simp; done) | (simp; omega) | omega))))⟩
          rw [K.out]
          simp [results, Try.results41, go_sem, x0, x1, zx0, zx1]
      · have HN := Lib.hid (show ¬ fdA P1 P2 k from fun a => h0 (by rw [HZ.out]; exact a.1))
        have hd : decide ((0 : Int) ≤ z) = false := by simpa using h0
        go_wp2_with fail
        go_roundw
        case rel =>
          refine ⟨k + 1, by omega, by go_num, Lib.hid fun j hj => ?_, HT3.out, HA3.out, HE3.out, B3⟩
          by_cases hjk : j < k
          · exact hall.out j hjk
          · obtain rfl : j = k := by omega
            exact HN.out
        case measure => simp [intOf]; omega
    · obtain rfl : k = P1.length := by omega
      have K := Lib.hid (fdR_3 HF.out HG.out hall.out)
      obtain ⟨x0, x1, zx0, zx1⟩ := ht
      go_wp2_with fail
      refine bodyPost_ret (v := fdR P1 P2) ?_ rfl ⟨rfl, by (repeat (first | exact Below.refl _ _ | refine Below.setCell ?_ (by first | (simp; done) | (simp; omega) | omega) _ | refine belowN ?_ _ | refine Below.drew ?_ | refine Below.alloc ?_ (by first | (simp; done) | (simp; omega) | omega) _ | refine Below.trans ?_ (Below.mono (by assumption) (by first | (simp; done) | (simp; omega) | omega))))⟩
      rw [K.out]
      simp [results, Try.results41, go_sem, x0, x1]

set_option maxRecDepth 100000 in
set_option maxHeartbeats 2000000 in
set_option linter.unusedSimpArgs false in
theorem firstDifference_any (v1 : Value) (P1 : List Pl) (v2 : Value) (P2 : List Pl) (w : World) (h1 : Plcs w v1 P1) (h2 : Plcs w v2 P2) (F : Form P1) (G : Form P2) :
    Calls Try.prog 69 #[.agg #[v1], .agg #[v2]] w fun e w' => e = .returned (fdM P1 P2) ∧ Below w.heap.size w w' := by
  have HU := Lib.hid h1
  have HV := Lib.hid h2
  obtain ⟨ao, cap, rfl, hl, hm, hc⟩ := h1.open_
  obtain ⟨bo, cap2, rfl, -, -, -⟩ := h2.open_
  unfold maxLen at hm
  have H0 := Lib.hid hc
  have HB := Lib.hid (boxes_f w (.slice ao P1.length cap) (.slice bo P2.length cap2) 29 29 36)
  clear h1 h2 hc
  have FF := Lib.hid F
  have GG := Lib.hid G
  have h500 := F.len
  clear F G
  go_enter Try.func69, Try.ntmps69
  have e0 := HB.out.2.1.c0
  go_wp2_with fail
  refine (tilesByPoint_any _ P2 _ (HV.out.below (by (repeat (first | exact Below.refl _ _ | refine Below.setCell ?_ (by first | (simp; done) | (simp; omega) | omega) _ | refine belowN ?_ _ | refine Below.drew ?_ | refine Below.alloc ?_ (by first | (simp; done) | (simp; omega) | omega) _ | refine Below.trans ?_ (Below.mono (by assumption) (by first | (simp; done) | (simp; omega) | omega)))))) GG.out).mono ?_
  rintro e w3 ⟨⟨g, rfl, hg0, hmap⟩, hb3⟩
  have B3 : Below w.heap.size w w3 := by (repeat (first | exact Below.refl _ _ | refine Below.setCell ?_ (by first | (simp; done) | (simp; omega) | omega) _ | refine belowN ?_ _ | refine Below.drew ?_ | refine Below.alloc ?_ (by first | (simp; done) | (simp; omega) | omega) _ | refine Below.trans ?_ (Below.mono (by assumption) (by first | (simp; done) | (simp; omega) | omega))))
  have z3 := B3.size
  have HM := Lib.hid hmap
  have a0 := (HB.out.1.below hb3).c0
  have R3 := Lib.hid (HB.out.2.2.below hb3)
  have hgg : w.heap.size + 1 + 1 < g := by simp at hg0; omega
  clear hb3 e0 hmap HB hg0
  go_wp2_with fail
  go_loopw [16] (fun i wr => ∃ k : Nat, k ≤ P1.length ∧ i = .int .i64 k ∧ Hid (∀ j, j < k → ¬ fdA P1 P2 j) ∧ Two wr (w.heap.size + 1 + 1) (.int .i64 0) (.int .i64 0) ∧ TMap wr g P2 P2.length ∧ Below w.heap.size w wr) (fun i _ => P1.length - (intOf i).toNat)
  case atStart => exact ⟨0, by omega, rfl, Lib.hid (fun j hj => by omega), R3.out, HM.out, B3⟩
  case round =>
    clear a0
    obtain ⟨k, hk, rfl, hall, ht, hmap, hbw⟩ := hrel
    have sw := hbw.size
    have HMR := Lib.hid hmap
    have HT := Lib.hid ht
    have hgl := World.ownsMap.lt hmap
    have hlt2 := ht.lt
    obtain ⟨x0, x1, zx0, zx1⟩ := ht
    clear hmap
    by_cases hlt : k < P1.length
    · obtain ⟨b, off, rfl, H1⟩ := H0.out (by omega)
      obtain ⟨c0, c1, c2⟩ := H1 k hlt
      have c0 := cell_below hbw c0
      have c1 := cell_below hbw c1
      have c2 := cell_below hbw c2
      have hp := (FF.out.all k hlt).pt
      have hti := inB_iff.1 (FF.out.all k hlt).tl
      have HKEY := Lib.hid (keyOf_ptB hp)
      clear H1
      by_cases hn : ixN P2 (pX P1 k) (pY P1 k) < P2.length
      · obtain ⟨hB, hA⟩ := tMap_yes GG.out hp hn
        have HA := Lib.hid hA
        have eA : atI P2 (pX P1 k) (pY P1 k) = pT P2 (ixN P2 (pX P1 k) (pY P1 k)) := by unfold atI; rw [if_pos hn]
        have ht2 := inB_iff.1 (GG.out.all _ hn).tl
        clear hA
        by_cases he : atI P2 (pX P1 k) (pY P1 k) = pT P1 k
        · have HN := Lib.hid (show ¬ fdA P1 P2 k from fun a => a.2 he)
          have HC := Lib.hid (eA.symm.trans he)
          clear he eA hn hp ht2
          go_wp2_with (at_lookup; refine wpList_lookup_own_ok_int _ rfl _ _ 84 rfl 36 2 .i64 lawP Try.underlying84 Try.underlying2 (zeroP1 _) _ _ _ rfl (World.ownsMap.alloc HMR.out _) _ _ rfl HKEY.out ?_; intro c hat hwc; obtain rfl : c = pT P1 k := by (have := (HA.out _).symm.trans hat; rw [HC.out] at this; simpa using this.symm))
          go_roundw
          case rel =>
            refine ⟨k + 1, by omega, by go_num, Lib.hid fun j hj => ?_, HT.out.alloc _, HMR.out.below (by (repeat (first | exact Below.refl _ _ | refine Below.setCell ?_ (by first | (simp; done) | (simp; omega) | omega) _ | refine belowN ?_ _ | refine Below.drew ?_ | refine Below.alloc ?_ (by first | (simp; done) | (simp; omega) | omega) _ | refine Below.trans ?_ (Below.mono (by assumption) (by first | (simp; done) | (simp; omega) | omega))))), by (repeat (first | exact Below.refl _ _ | refine Below.setCell ?_ (by first | (simp; done) | (simp; omega) | omega) _ | refine belowN ?_ _ | refine Below.drew ?_ | refine Below.alloc ?_ (by first | (simp; done) | (simp; omega) | omega) _ | refine Below.trans ?_ (Below.mono (by assumption) (by first | (simp; done) | (simp; omega) | omega))))⟩
            by_cases hjk : j < k
            · exact hall.out j hjk
            · obtain rfl : j = k := by omega
              exact HN.out
          case measure => simp [intOf]; omega
        · have KA : fdA P1 P2 k := ⟨by rw [eA]; omega, he⟩
          have K := Lib.hid (show fdM P1 P2 = .tuple #[.agg #[.int .i64 (pX P1 k), .int .i64 (pY P1 k)], .bool true] by have e := fdI_yes hlt KA hall.out; rw [fdM_1 (by omega), e])
          have bn : (pT P2 (ixN P2 (pX P1 k) (pY P1 k)) == pT P1 k) = false := by rw [beq_eq_false_iff_ne, ← eA]; exact he
          clear he eA hn hp KA ht2
          go_wp2_with (at_lookup; refine wpList_lookup_own_ok_int _ rfl _ _ 84 rfl 36 2 .i64 lawP Try.underlying84 Try.underlying2 (zeroP1 _) _ _ _ rfl (World.ownsMap.alloc HMR.out _) _ _ rfl HKEY.out ?_; intro c hat hwc; obtain rfl : c = pT P2 (ixN P2 (pX P1 k) (pY P1 k)) := by (have := (HA.out _).symm.trans hat; simpa using this.symm))
          refine bodyPost_ret (v := fdM P1 P2) ?_ rfl ⟨rfl, by (repeat (first | exact Below.refl _ _ | refine Below.setCell ?_ (by first | (simp; done) | (simp; omega) | omega) _ | refine belowN ?_ _ | refine Below.drew ?_ | refine Below.alloc ?_ (by first | (simp; done) | (simp; omega) | omega) _ | refine Below.trans ?_ (Below.mono (by assumption) (by first | (simp; done) | (simp; omega) | omega))))⟩
          rw [K.out]
          simp [results, Try.results69, go_sem, x0, x1, zx0, zx1, hlt2]
      · have hB := tMap_no GG.out hp hn
        have eA : atI P2 (pX P1 k) (pY P1 k) = -1 := by unfold atI; rw [if_neg hn]
        have HN := Lib.hid (show ¬ fdA P1 P2 k from fun a => by have := a.1; rw [eA] at this; omega)
        clear eA hn hp
        go_wp2_with (at_lookup; refine wpList_lookup_own_ok_int _ rfl _ _ 84 rfl 36 2 .i64 lawP Try.underlying84 Try.underlying2 (zeroP1 _) _ _ _ rfl (World.ownsMap.alloc HMR.out _) _ _ rfl HKEY.out ?_; intro c hat hwc)
        go_roundw
        case rel =>
          refine ⟨k + 1, by omega, by go_num, Lib.hid fun j hj => ?_, HT.out.alloc _, HMR.out.below (by (repeat (first | exact Below.refl _ _ | refine Below.setCell ?_ (by first | (simp; done) | (simp; omega) | omega) _ | refine belowN ?_ _ | refine Below.drew ?_ | refine Below.alloc ?_ (by first | (simp; done) | (simp; omega) | omega) _ | refine Below.trans ?_ (Below.mono (by assumption) (by first | (simp; done) | (simp; omega) | omega))))), by (repeat (first | exact Below.refl _ _ | refine Below.setCell ?_ (by first | (simp; done) | (simp; omega) | omega) _ | refine belowN ?_ _ | refine Below.drew ?_ | refine Below.alloc ?_ (by first | (simp; done) | (simp; omega) | omega) _ | refine Below.trans ?_ (Below.mono (by assumption) (by first | (simp; done) | (simp; omega) | omega))))⟩
          by_cases hjk : j < k
          · exact hall.out j hjk
          · obtain rfl : j = k := by omega
            exact HN.out
        case measure => simp [intOf]; omega
    · obtain rfl : k = P1.length := by omega
      have K := Lib.hid (fdM_0 (show ¬ fdI P1 P2 < P1.length by have := fdI_no hall.out; omega))
      go_wp2_with fail
      refine bodyPost_ret (v := fdM P1 P2) ?_ rfl ⟨rfl, by (repeat (first | exact Below.refl _ _ | refine Below.setCell ?_ (by first | (simp; done) | (simp; omega) | omega) _ | refine belowN ?_ _ | refine Below.drew ?_ | refine Below.alloc ?_ (by first | (simp; done) | (simp; omega) | omega) _ | refine Below.trans ?_ (Below.mono (by assumption) (by first | (simp; done) | (simp; omega) | omega))))⟩
      rw [K.out]
      simp [results, Try.results69, go_sem, x0, x1, zx0, zx1]

set_option maxRecDepth 100000 in
set_option maxHeartbeats 2000000 in
set_option linter.unusedSimpArgs false in
theorem implFirst_any (v1 : Value) (P1 : List Pl) (v2 : Value) (P2 : List Pl) (w : World) (h1 : Plcs w v1 P1) (_s1 : ∃ a k q, v1 = .slice (some a) k q) (_o1 : ∀ p ∈ P1, p.ok) (_m1 : P1.length ≤ 1048576) (h2 : Plcs w v2 P2) (_s2 : ∃ a k q, v2 = .slice (some a) k q) (_o2 : ∀ p ∈ P2, p.ok) (_m2 : P2.length ≤ 1048576) :
    Calls Try.prog 42 #[.agg #[v1], .agg #[v2]] w fun e w' => e = .returned (fdR P1 P2) ∧ Below w.heap.size w w' := by
  have HU := Lib.hid h1
  have HV := Lib.hid h2
  obtain ⟨ao, cap, rfl, hl, hm, hc⟩ := h1.open_
  obtain ⟨bo, cap2, rfl, -, -, -⟩ := h2.open_
  unfold maxLen at hm
  have H0 := Lib.hid hc
  have HB := Lib.hid (boxes_f w (.slice ao P1.length cap) (.slice bo P2.length cap2) 29 29 36)
  clear h1 h2 hc
  clear H0
  go_enter Try.func42, Try.ntmps42
  go_wp2_with fail
  refine (hasForm_any _ P1 _ (HU.out.below (by (repeat (first | exact Below.refl _ _ | refine Below.setCell ?_ (by first | (simp; done) | (simp; omega) | omega) _ | refine belowN ?_ _ | refine Below.drew ?_ | refine Below.alloc ?_ (by first | (simp; done) | (simp; omega) | omega) _ | refine Below.trans ?_ (Below.mono (by assumption) (by first | (simp; done) | (simp; omega) | omega))))))).mono ?_
  rintro e w1 ⟨rfl, hb1⟩
  have B1 : Below w.heap.size w w1 := by (repeat (first | exact Below.refl _ _ | refine Below.setCell ?_ (by first | (simp; done) | (simp; omega) | omega) _ | refine belowN ?_ _ | refine Below.drew ?_ | refine Below.alloc ?_ (by first | (simp; done) | (simp; omega) | omega) _ | refine Below.trans ?_ (Below.mono (by assumption) (by first | (simp; done) | (simp; omega) | omega))))
  have z1 := B1.size
  have A1 := Lib.hid (HB.out.1.below hb1)
  have E1 := Lib.hid (HB.out.2.1.below hb1)
  have R1 := Lib.hid (HB.out.2.2.below hb1)
  have e0 := E1.out.c0
  clear hb1
  cases hf : formB P1
  · have K := Lib.hid (fdR_p (Q := P2) hf)
    obtain ⟨x0, x1, zx0, zx1⟩ := R1.out
    go_wp2_with fail
    refine bodyPost_ret (v := fdR P1 P2) ?_ rfl ⟨rfl, by (repeat (first | exact Below.refl _ _ | refine Below.setCell ?_ (by first | (simp; done) | (simp; omega) | omega) _ | refine belowN ?_ _ | refine Below.drew ?_ | refine Below.alloc ?_ (by first | (simp; done) | (simp; omega) | omega) _ | refine Below.trans ?_ (Below.mono (by assumption) (by first | (simp; done) | (simp; omega) | omega))))⟩
    rw [K.out]
    simp [results, Try.results42, go_sem, x0, x1]
  have HF := Lib.hid hf
  clear hf
  cases hg : formB P2
  · have K := Lib.hid (fdR_q (P := P1) hg)
    go_wp2_with fail
    refine (hasForm_any _ P2 _ (HV.out.below B1)).mono ?_
    rintro e w2 ⟨rfl, hb2⟩
    have B2 : Below w.heap.size w w2 := by (repeat (first | exact Below.refl _ _ | refine Below.setCell ?_ (by first | (simp; done) | (simp; omega) | omega) _ | refine belowN ?_ _ | refine Below.drew ?_ | refine Below.alloc ?_ (by first | (simp; done) | (simp; omega) | omega) _ | refine Below.trans ?_ (Below.mono (by assumption) (by first | (simp; done) | (simp; omega) | omega))))
    rw [hg]
    obtain ⟨x0, x1, zx0, zx1⟩ := R1.out.below hb2
    clear hb2
    go_wp2_with fail
    refine bodyPost_ret (v := fdR P1 P2) ?_ rfl ⟨rfl, by (repeat (first | exact Below.refl _ _ | refine Below.setCell ?_ (by first | (simp; done) | (simp; omega) | omega) _ | refine belowN ?_ _ | refine Below.drew ?_ | refine Below.alloc ?_ (by first | (simp; done) | (simp; omega) | omega) _ | refine Below.trans ?_ (Below.mono (by assumption) (by first | (simp; done) | (simp; omega) | omega))))⟩
    rw [K.out]
    simp [results, Try.results42, go_sem, x0, x1]
  have HG := Lib.hid hg
  have FF := Lib.hid (formB_iff.1 HF.out)
  have GG := Lib.hid (formB_iff.1 hg)
  go_wp2_with fail
  refine (hasForm_any _ P2 _ (HV.out.below B1)).mono ?_
  rintro e w2 ⟨rfl, hb2⟩
  rw [hg]
  have B2 : Below w.heap.size w w2 := by (repeat (first | exact Below.refl _ _ | refine Below.setCell ?_ (by first | (simp; done) | (simp; omega) | omega) _ | refine belowN ?_ _ | refine Below.drew ?_ | refine Below.alloc ?_ (by first | (simp; done) | (simp; omega) | omega) _ | refine Below.trans ?_ (Below.mono (by assumption) (by first | (simp; done) | (simp; omega) | omega))))
  have z2 := B2.size
  have a0 := (A1.out.below hb2).c0
  have e0 := (E1.out.below hb2).c0
  have R2 := Lib.hid (R1.out.below hb2)
  clear hb2 hg A1 E1 R1
  go_wp2_with fail
  refine (firstDifference_any _ P1 _ P2 _ (HU.out.below B2) (HV.out.below B2) FF.out GG.out).mono ?_
  rintro e w3 ⟨rfl, hb3⟩
  have B3 : Below w.heap.size w w3 := by (repeat (first | exact Below.refl _ _ | refine Below.setCell ?_ (by first | (simp; done) | (simp; omega) | omega) _ | refine belowN ?_ _ | refine Below.drew ?_ | refine Below.alloc ?_ (by first | (simp; done) | (simp; omega) | omega) _ | refine Below.trans ?_ (Below.mono (by assumption) (by first | (simp; done) | (simp; omega) | omega))))
  have z3 := B3.size
  have R3 := Lib.hid (R2.out.below hb3)
  have l3 := R3.out.lt
  obtain ⟨x0, x1, zx0, zx1⟩ := R3.out
  clear hb3 a0 e0
  by_cases hi : fdI P1 P2 < P1.length
  · have K := Lib.hid (show fdR P1 P2 = .tuple #[.agg #[.int .i64 (pX P1 (fdI P1 P2)), .int .i64 (pY P1 (fdI P1 P2))], .int .i64 0] by simp [fdR, fdX, fdY, fdC, HF.out, HG.out, hi])
    rw [fdM_1 hi]
    clear hi
    go_wp2_with fail
    refine bodyPost_ret (v := fdR P1 P2) ?_ rfl ⟨rfl, by (repeat (first | exact Below.refl _ _ | refine Below.setCell ?_ (by first | (simp; done) | (simp; omega) | omega) _ | refine belowN ?_ _ | refine Below.drew ?_ | refine Below.alloc ?_ (by first | (simp; done) | (simp; omega) | omega) _ | refine Below.trans ?_ (Below.mono (by assumption) (by first | (simp; done) | (simp; omega) | omega))))⟩
    rw [K.out]
    simp [results, Try.results42, go_sem, x0, x1, zx0, zx1, l3]
  · have K := Lib.hid (show fdR P1 P2 = .tuple #[.agg #[.int .i64 0, .int .i64 0], .int .i64 3] by simp [fdR, fdX, fdY, fdC, HF.out, HG.out, hi])
    rw [fdM_0 hi]
    clear hi
    go_wp2_with fail
    refine bodyPost_ret (v := fdR P1 P2) ?_ rfl ⟨rfl, by (repeat (first | exact Below.refl _ _ | refine Below.setCell ?_ (by first | (simp; done) | (simp; omega) | omega) _ | refine belowN ?_ _ | refine Below.drew ?_ | refine Below.alloc ?_ (by first | (simp; done) | (simp; omega) | omega) _ | refine Below.trans ?_ (Below.mono (by assumption) (by first | (simp; done) | (simp; omega) | omega))))⟩
    rw [K.out]
    simp [results, Try.results42, go_sem, x0, x1, zx0, zx1, l3]

end Go.Proofs.Ytcaidemlhgepfaa
