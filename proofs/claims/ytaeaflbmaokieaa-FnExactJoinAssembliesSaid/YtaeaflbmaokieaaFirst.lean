/-
  FirstDifference, the model's and the program's. Conditions: each theorem's own.
-/
import Derived.Test.YtaeaflbmaokieaaWithin
namespace Go.Proofs.Ytaeaflbmaokieaa
open Go.RowKit Go.Maps

/-- The second assembly has another tile where the first has its k-th. -/
def fdA (P Q : List Pl) (k : Nat) : Prop := 0 ≤ atI Q (pX P k) (pY P k) ∧ ¬ atI Q (pX P k) (pY P k) = pT P k
open Classical in
noncomputable def fdI (P Q : List Pl) : Nat := if h : ∃ k, k < P.length ∧ fdA P Q k ∧ ∀ j, j < k → ¬ fdA P Q j then h.choose else P.length
theorem fdI_yes {P Q : List Pl} {k : Nat} (hk : k < P.length) (h : fdA P Q k) (hn : ∀ j, j < k → ¬ fdA P Q j) : fdI P Q = k := by
  have hx : ∃ k, k < P.length ∧ fdA P Q k ∧ ∀ j, j < k → ¬ fdA P Q j := ⟨k, hk, h, hn⟩
  unfold fdI
  rw [dif_pos hx]
  obtain ⟨a, b, c⟩ := hx.choose_spec
  rcases Nat.lt_trichotomy hx.choose k with g | g | g
  · exact absurd b (hn _ g)
  · exact g
  · exact absurd h (c _ g)
theorem fdI_no {P Q : List Pl} (hn : ∀ j, j < P.length → ¬ fdA P Q j) : fdI P Q = P.length := by
  unfold fdI
  rw [dif_neg]
  rintro ⟨k, hk, h, -⟩
  exact hn k hk h
noncomputable def fdC (P Q : List Pl) : Int := if formB P = true ∧ formB Q = true then (if fdI P Q < P.length then 0 else 3) else 1
noncomputable def fdX (P Q : List Pl) : Int := if fdC P Q = 0 then pX P (fdI P Q) else 0
noncomputable def fdY (P Q : List Pl) : Int := if fdC P Q = 0 then pY P (fdI P Q) else 0
/-- What FirstDifference returns. -/
noncomputable def fdR (P Q : List Pl) : Value := .tuple #[.agg #[.int .i64 (fdX P Q), .int .i64 (fdY P Q)], .int .i64 (fdC P Q)]
theorem fdR_p {P Q : List Pl} (h : formB P = false) : fdR P Q = .tuple #[.agg #[.int .i64 0, .int .i64 0], .int .i64 1] := by simp [fdR, fdX, fdY, fdC, h]
theorem fdR_q {P Q : List Pl} (h : formB Q = false) : fdR P Q = .tuple #[.agg #[.int .i64 0, .int .i64 0], .int .i64 1] := by simp [fdR, fdX, fdY, fdC, h]
theorem fdR_3 {P Q : List Pl} (h : formB P = true) (g : formB Q = true) (hn : ∀ j, j < P.length → ¬ fdA P Q j) : fdR P Q = .tuple #[.agg #[.int .i64 0, .int .i64 0], .int .i64 3] := by simp [fdR, fdX, fdY, fdC, h, g, fdI_no hn]
theorem fdR_0 {P Q : List Pl} (h : formB P = true) (g : formB Q = true) {k : Nat} (hk : k < P.length) (ha : fdA P Q k) (hn : ∀ j, j < k → ¬ fdA P Q j) : fdR P Q = .tuple #[.agg #[.int .i64 (pX P k), .int .i64 (pY P k)], .int .i64 0] := by simp [fdR, fdX, fdY, fdC, h, g, fdI_yes hk ha hn, hk]

/-- What the method firstDifference returns. -/
noncomputable def fdM (P Q : List Pl) : Value := if fdI P Q < P.length then .tuple #[.agg #[.int .i64 (pX P (fdI P Q)), .int .i64 (pY P (fdI P Q))], .bool true] else .tuple #[.agg #[.int .i64 0, .int .i64 0], .bool false]
theorem fdM_1 {P Q : List Pl} (h : fdI P Q < P.length) : fdM P Q = .tuple #[.agg #[.int .i64 (pX P (fdI P Q)), .int .i64 (pY P (fdI P Q))], .bool true] := if_pos h
theorem fdM_0 {P Q : List Pl} (h : ¬ fdI P Q < P.length) : fdM P Q = .tuple #[.agg #[.int .i64 0, .int .i64 0], .bool false] := if_neg h
/-- The boxes of two assemblies and one of a point. -/
theorem boxes_f (w : World) (u v : Value) (t1 t2 t3 : TypeId) : At1 (((w.alloc (.cells #[u] t1)).alloc (.cells #[v] t2)).alloc (.cells #[.int .i64 0, .int .i64 0] t3)) w.heap.size u ∧
    At1 (((w.alloc (.cells #[u] t1)).alloc (.cells #[v] t2)).alloc (.cells #[.int .i64 0, .int .i64 0] t3)) (w.heap.size + 1) v ∧
    Two (((w.alloc (.cells #[u] t1)).alloc (.cells #[v] t2)).alloc (.cells #[.int .i64 0, .int .i64 0] t3)) (w.heap.size + 1 + 1) (.int .i64 0) (.int .i64 0) :=
  ⟨(boxes_aa w u v t1 t2).1.below (by (repeat (first | exact Below.refl _ _ | refine Below.setCell ?_ (by first | (simp; done) | (simp; omega) | omega) _ | refine belowN ?_ _ | refine Below.drew ?_ | refine Below.alloc ?_ (by first | (simp; done) | (simp; omega) | omega) _ | refine Below.trans ?_ (Below.mono (by assumption) (by first | (simp; done) | (simp; omega) | omega))))), (boxes_aa w u v t1 t2).2.below (by (repeat (first | exact Below.refl _ _ | refine Below.setCell ?_ (by first | (simp; done) | (simp; omega) | omega) _ | refine belowN ?_ _ | refine Below.drew ?_ | refine Below.alloc ?_ (by first | (simp; done) | (simp; omega) | omega) _ | refine Below.trans ?_ (Below.mono (by assumption) (by first | (simp; done) | (simp; omega) | omega))))), Two.new (n := w.heap.size + 1 + 1) _ _ _ _ (by simp)⟩

set_option maxRecDepth 100000 in
set_option maxHeartbeats 2000000 in
set_option linter.unusedSimpArgs false in
theorem firstDifference_any (v1 : Value) (P1 : List Pl) (v2 : Value) (P2 : List Pl) (w : World) (h1 : Plcs w v1 P1) (h2 : Plcs w v2 P2) (F : Form P1) (G : Form P2) :
    Calls Try.prog 65 #[.agg #[v1], .agg #[v2]] w fun e w' => e = .returned (fdM P1 P2) ∧ Below w.heap.size w w' := by
  have HU := Lib.hid h1
  have HV := Lib.hid h2
  obtain ⟨ao, cap, rfl, hl, hm, hc⟩ := h1.open_
  obtain ⟨bo, cap2, rfl, -, -, -⟩ := h2.open_
  unfold maxLen at hm
  have H0 := Lib.hid hc
  have HB := Lib.hid (boxes_f w (.slice ao P1.length cap) (.slice bo P2.length cap2) 30 30 34)
  clear h1 h2 hc
  have FF := Lib.hid F
  have GG := Lib.hid G
  have h500 := F.len
  clear F G
  go_enter Try.func65, Try.ntmps65
  have e0 := HB.out.2.1.c0
  go_wp2_with fail
  refine (tilesByPoint_any _ P2 _ (HV.out.below (by (repeat (first | exact Below.refl _ _ | refine Below.setCell ?_ (by first | (simp; done) | (simp; omega) | omega) _ | refine belowN ?_ _ | refine Below.drew ?_ | refine Below.alloc ?_ (by first | (simp; done) | (simp; omega) | omega) _ | refine Below.trans ?_ (Below.mono (by assumption) (by first | (simp; done) | (simp; omega) | omega)))))) GG.out).mono ?_
  rintro e w3 ⟨⟨g, rfl, hg0, hmap⟩, hb3⟩
  have B3 : Below w.heap.size w w3 := by (repeat (first | exact Below.refl _ _ | refine Below.setCell ?_ (by first | (simp; done) | (simp; omega) | omega) _ | refine belowN ?_ _ | refine Below.drew ?_ | refine Below.alloc ?_ (by first | (simp; done) | (simp; omega) | omega) _ | refine Below.trans ?_ (Below.mono (by assumption) (by first | (simp; done) | (simp; omega) | omega))))
  have z3 := B3.size
  have HM := Lib.hid hmap
  have a0 := (HB.out.1.below hb3).c0
  have R3 := Lib.hid (HB.out.2.2.below hb3)
  have hgg : w.heap.size + 1 + 1 < g := by simp at hg0; omega
  clear hb3 e0 hmap HB hg0
  go_wp2_with fail
  go_loopw [16] (fun i wr => ∃ k : Nat, k ≤ P1.length ∧ i = .int .i64 k ∧ Hid (∀ j, j < k → ¬ fdA P1 P2 j) ∧ Two wr (w.heap.size + 1 + 1) (.int .i64 0) (.int .i64 0) ∧ TMap wr g P2 P2.length ∧ Below w.heap.size w wr) (fun i _ => P1.length - (intOf i).toNat)
  case atStart => exact ⟨0, by omega, rfl, Lib.hid (fun j hj => by omega), R3.out, HM.out, B3⟩
  case round =>
    clear a0
    obtain ⟨k, hk, rfl, hall, ht, hmap, hbw⟩ := hrel
    have sw := hbw.size
    have HMR := Lib.hid hmap
    have HT := Lib.hid ht
    have hgl := World.ownsMap.lt hmap
    have hlt2 := ht.lt
    obtain ⟨x0, x1, zx0, zx1⟩ := ht
    clear hmap
    by_cases hlt : k < P1.length
    · obtain ⟨b, off, rfl, H1⟩ := H0.out (by omega)
      obtain ⟨c0, c1, c2⟩ := H1 k hlt
      have c0 := cell_below hbw c0
      have c1 := cell_below hbw c1
      have c2 := cell_below hbw c2
      have hp := (FF.out.all k hlt).pt
      have hti := inB_iff.1 (FF.out.all k hlt).tl
      have HKEY := Lib.hid (keyOf_ptB hp)
      clear H1
      by_cases hn : ixN P2 (pX P1 k) (pY P1 k) < P2.length
      · obtain ⟨hB, hA⟩ := tMap_yes GG.out hp hn
        have HA := Lib.hid hA
        have eA : atI P2 (pX P1 k) (pY P1 k) = pT P2 (ixN P2 (pX P1 k) (pY P1 k)) := by unfold atI; rw [if_pos hn]
        have ht2 := inB_iff.1 (GG.out.all _ hn).tl
        clear hA
        by_cases he : atI P2 (pX P1 k) (pY P1 k) = pT P1 k
        · have HN := Lib.hid (show ¬ fdA P1 P2 k from fun a => a.2 he)
          have HC := Lib.hid (eA.symm.trans he)
          clear he eA hn hp ht2
          go_wp2_with (at_lookup; refine wpList_lookup_own_ok_int _ rfl _ _ 86 rfl 34 2 .i64 lawP Try.underlying86 Try.underlying2 (zeroP1 _) _ _ _ rfl (World.ownsMap.alloc HMR.out _) _ _ rfl HKEY.out ?_; intro c hat hwc; obtain rfl : c = pT P1 k := by (have := (HA.out _).symm.trans hat; rw [HC.out] at this; simpa using this.symm))
          go_roundw
          case rel =>
            refine ⟨k + 1, by omega, by go_num, Lib.hid fun j hj => ?_, HT.out.alloc _, HMR.out.below (by (repeat (first | exact Below.refl _ _ | refine Below.setCell ?_ (by first | (simp; done) | (simp; omega) | omega) _ | refine belowN ?_ _ | refine Below.drew ?_ | refine Below.alloc ?_ (by first | (simp; done) | (simp; omega) | omega) _ | refine Below.trans ?_ (Below.mono (by assumption) (by first | (simp; done) | (simp; omega) | omega))))), by (repeat (first | exact Below.refl _ _ | refine Below.setCell ?_ (by first | (simp; done) | (simp; omega) | omega) _ | refine belowN ?_ _ | refine Below.drew ?_ | refine Below.alloc ?_ (by first | (simp; done) | (simp; omega) | omega) _ | refine Below.trans ?_ (Below.mono (by assumption) (by first | (simp; done) | (simp; omega) | omega))))⟩
            by_cases hjk : j < k
            · exact hall.out j hjk
            · obtain rfl : j = k := by omega
              exact HN.out
          case measure => simp [intOf]; omega
        · have KA : fdA P1 P2 k := ⟨by rw [eA]; omega, he⟩
          have K := Lib.hid (show fdM P1 P2 = .tuple #[.agg #[.int .i64 (pX P1 k), .int .i64 (pY P1 k)], .bool true] by have e := fdI_yes hlt KA hall.out; rw [fdM_1 (by omega), e])
          have bn : (pT P2 (ixN P2 (pX P1 k) (pY P1 k)) == pT P1 k) = false := by rw [beq_eq_false_iff_ne, ← eA]; exact he
          clear he eA hn hp KA ht2
          go_wp2_with (at_lookup; refine wpList_lookup_own_ok_int _ rfl _ _ 86 rfl 34 2 .i64 lawP Try.underlying86 Try.underlying2 (zeroP1 _) _ _ _ rfl (World.ownsMap.alloc HMR.out _) _ _ rfl HKEY.out ?_; intro c hat hwc; obtain rfl : c = pT P2 (ixN P2 (pX P1 k) (pY P1 k)) := by (have := (HA.out _).symm.trans hat; simpa using this.symm))
          refine bodyPost_ret (v := fdM P1 P2) ?_ rfl ⟨rfl, by (repeat (first | exact Below.refl _ _ | refine Below.setCell ?_ (by first | (simp; done) | (simp; omega) | omega) _ | refine belowN ?_ _ | refine Below.drew ?_ | refine Below.alloc ?_ (by first | (simp; done) | (simp; omega) | omega) _ | refine Below.trans ?_ (Below.mono (by assumption) (by first | (simp; done) | (simp; omega) | omega))))⟩
          rw [K.out]
          simp [results, Try.results65, go_sem, x0, x1, zx0, zx1, hlt2]
      · have hB := tMap_no GG.out hp hn
        have eA : atI P2 (pX P1 k) (pY P1 k) = -1 := by unfold atI; rw [if_neg hn]
        have HN := Lib.hid (show ¬ fdA P1 P2 k from fun a => by have := a.1; rw [eA] at this; omega)
        clear eA hn hp
        go_wp2_with (at_lookup; refine wpList_lookup_own_ok_int _ rfl _ _ 86 rfl 34 2 .i64 lawP Try.underlying86 Try.underlying2 (zeroP1 _) _ _ _ rfl (World.ownsMap.alloc HMR.out _) _ _ rfl HKEY.out ?_; intro c hat hwc)
        go_roundw
        case rel =>
          refine ⟨k + 1, by omega, by go_num, Lib.hid fun j hj => ?_, HT.out.alloc _, HMR.out.below (by (repeat (first | exact Below.refl _ _ | refine Below.setCell ?_ (by first | (simp; done) | (simp; omega) | omega) _ | refine belowN ?_ _ | refine Below.drew ?_ | refine Below.alloc ?_ (by first | (simp; done) | (simp; omega) | omega) _ | refine Below.trans ?_ (Below.mono (by assumption) (by first | (simp; done) | (simp; omega) | omega))))), by (repeat (first | exact Below.refl _ _ | refine Below.setCell ?_ (by first | (simp; done) | (simp; omega) | omega) _ | refine belowN ?_ _ | refine Below.drew ?_ | refine Below.alloc ?_ (by first | (simp; done) | (simp; omega) | omega) _ | refine Below.trans ?_ (Below.mono (by assumption) (by first | (simp; done) | (simp; omega) | omega))))⟩
          by_cases hjk : j < k
          · exact hall.out j hjk
          · obtain rfl : j = k := by omega
            exact HN.out
        case measure => simp [intOf]; omega
    · obtain rfl : k = P1.length := by omega
      have K := Lib.hid (fdM_0 (show ¬ fdI P1 P2 < P1.length by have := fdI_no hall.out; omega))
      go_wp2_with fail
      refine bodyPost_ret (v := fdM P1 P2) ?_ rfl ⟨rfl, by (repeat (first | exact Below.refl _ _ | refine Below.setCell ?_ (by first | (simp; done) | (simp; omega) | omega) _ | refine belowN ?_ _ | refine Below.drew ?_ | refine Below.alloc ?_ (by first | (simp; done) | (simp; omega) | omega) _ | refine Below.trans ?_ (Below.mono (by assumption) (by first | (simp; done) | (simp; omega) | omega))))⟩
      rw [K.out]
      simp [results, Try.results65, go_sem, x0, x1, zx0, zx1]

end Go.Proofs.Ytaeaflbmaokieaa
