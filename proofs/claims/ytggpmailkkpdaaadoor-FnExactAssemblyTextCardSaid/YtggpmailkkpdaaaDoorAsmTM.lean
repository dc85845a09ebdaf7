/-
  The text of an assembly, the model's. Conditions: each theorem's own.
-/
import Derived.Test.YtggpmailkkpdaaaDoorATxt
import Derived.Test.YtggpmailkkpdaaaDoorSetM
namespace Go.Proofs.YtggpmailkkpdaaaDoor
open Go.RowKit

set_option maxRecDepth 100000 in
set_option maxHeartbeats 4000000 in
set_option linter.unusedSimpArgs false in
theorem l05Assembly_any (p q : Nat) (vg vt v : Value) (S : Set_) (P : List Pl) (w : World) (hp : At w p vg vt) (hq : At1 w q v) (hS : SetIn w vg vt S) (hv : Plcs w v P) (V : VAs S P) :
    Calls Tryd.prog 44 #[.pointer (some ⟨p, 0, none⟩), .pointer (some ⟨q, 0, none⟩)] w fun e w' => e = .returned (.string ⟨(aLs S P P.length).toArray⟩) ∧ Below w.heap.size w w' := by
  have HS := Lib.hid hS
  have HP := Lib.hid hp
  have HQ := Lib.hid hq
  have HV := Lib.hid V
  have HVP := Lib.hid hv
  have htl := V.v.t.len
  have ht1 := V.v.t.one
  have hpl := V.f.len
  obtain ⟨tb, toff, tcap, rfl, htl2, htm, -⟩ := tiles_open hS.t (by omega)
  obtain ⟨ao, cap, rfl, hl, hm, -⟩ := hv.open_
  unfold maxLen at htm hm
  obtain ⟨i0, hi, hz0, hz1, hz2⟩ := info_parts info_u8
  clear hS hp hq V hv
  go_enter Tryd.func44, Tryd.ntmps44
  go_wp2_with fail
  go_loopw [5, 6] (fun out i wr => ∃ (k : Nat) (u : Value), k ≤ P.length ∧ i = .int .i64 (k : Int) ∧ u = out ∧ wr.ownsRow w.heap.size 5 1 u (aLs S P k).length (Lib.byteCells (aLs S P k)) ∧ Below w.heap.size w wr) (fun _ i _ => P.length - (intOf i).toNat)
  case atStart => exact ⟨0, _, by omega, by simp, rfl, World.ownsRow_lit (base := w.heap.size) (e := 5) (size := 1) w #[] 0 (Nat.le_refl _) (Nat.zero_le _) rfl, by (repeat (first | exact Below.refl _ _ | refine Below.setCell ?_ (by first | (simp; done) | (simp; omega) | omega) _ | refine belowN ?_ _ | refine Below.drew ?_ | refine Below.alloc ?_ (by first | (simp; done) | (simp; omega) | omega) _ | refine Below.trans ?_ (Below.mono (by assumption) (by first | (simp; done) | (simp; omega) | omega))))⟩
  case round =>
    obtain ⟨k, u, hk, rfl, rfl, hown, hbw⟩ := hrel
    have sw := hbw.size
    obtain ⟨k0, k1⟩ := HP.out.below hbw
    obtain ⟨q0⟩ := HQ.out.below hbw
    by_cases hlt : k < P.length
    · obtain ⟨ao2, cap2, hvv, -, -, hc⟩ := HVP.out.open_
      simp at hvv
      obtain ⟨b, off, rfl, hcc⟩ := hc (by omega)
      obtain ⟨rfl, rfl⟩ := hvv
      obtain ⟨c0, c1, c2⟩ := hcc k hlt
      have HC0 := Lib.hid c0
      have HC1 := Lib.hid c1
      have HC2 := Lib.hid c2
      have c0 := cell_below hbw c0
      have c1 := cell_below hbw c1
      have c2 := cell_below hbw c2
      have hns := aNm_size HV.out hlt
      have hps : (aPt P k).size ≤ 43 := ptText_size _ _
      have htk := HV.out.t k hlt
      have hlen := aLs_len HV.out hk
      have HL : Hid (aLs S P (k + 1) = aLs S P k ++ ((aNm S P k ++ (⟨#[32]⟩ : ByteArray)) ++ aPt P k ++ ⟨#[10]⟩).data.toList) := Lib.hid (by simp [aLs, aLine, ByteArray.data_append])
      have SP := fun w => specPointText_any (pX P k) (pY P k) w
      obtain ⟨t, ht⟩ : ∃ t : Nat, pT P k = (t : Int) := ⟨(pT P k).toNat, by omega⟩
      obtain ⟨b3, o3, c3, hvv3, -, -, hc3⟩ := tiles_open HS.out.t (by omega)
      simp at hvv3
      obtain ⟨⟨rfl, rfl⟩, rfl⟩ := hvv3
      obtain ⟨b2, o2, c, d0, -, -, -, -⟩ := hc3 t (by omega) (HV.out.v.sides (by omega))
      have hnm : aNm S P k = tN S.ts t := by unfold aNm; rw [ht]; rfl
      rw [← hnm] at d0
      have HD0 := Lib.hid d0
      have d0 := cell_below hbw d0
      have hpt : aPt P k = ptText (pX P k) (pY P k) := rfl
      rw [← hpt] at SP
      generalize hX : pX P k = X at *
      generalize hY : pY P k = Y at *
      generalize hN : aNm S P k = NM at *
      generalize hD : aPt P k = DD at *
      have HOWN := Lib.hid hown
      have z1 : (⟨#[32]⟩ : ByteArray).size = 1 := rfl
      have z10 : (⟨#[10]⟩ : ByteArray).size = 1 := rfl
      have l1 : ¬ 9223372036854775807 < NM.size + 1 := by omega
      have l3 : ¬ 9223372036854775807 < NM.size + 1 + DD.size := by omega
      have l4 : ¬ 9223372036854775807 < NM.size + 1 + DD.size + 1 := by omega
      have htt : t < S.ts.length := by omega
      rw [ht] at c2
      have HC2' : Hid (w.cell? ⟨b, off + k * 3 + 2, none⟩ = some (.int .i64 (t : Int))) := Lib.hid (by rw [← ht]; exact HC2.out)
      clear hc hcc hown hX hY hN hD hc3 hpt hnm htk ht HC2
      go_wp2_with fail
      go_region_held3 (fun w' => w'.cell? ⟨p, 1, none⟩ = some (.slice (some ⟨tb, toff, none⟩) S.ts.length tcap) ∧ w'.cell? ⟨q, 0, none⟩ = some (.slice (some ⟨b, off, none⟩) P.length cap) ∧ w'.cell? ⟨b, off + k * 3, none⟩ = some (.int .i64 X) ∧ w'.cell? ⟨b, off + k * 3 + 1, none⟩ = some (.int .i64 Y) ∧ w'.cell? ⟨b, off + k * 3 + 2, none⟩ = some (.int .i64 (t : Int)) ∧ w'.cell? ⟨tb, toff + t * 2, none⟩ = some (.string NM)) ((((try go_split_ands); (try dsimp only); (repeat' apply And.intro)) <;> (repeat (first | with_reducible assumption | ((with_reducible refine cnew0 ?_); simp; done) | ((with_reducible refine cnew1 ?_); simp; done) | (with_reducible refine akeep ?_) | (with_reducible refine dkeep ?_) | ((with_reducible refine skeep ?_ ?_); rotate_left; (first | ((try dsimp only); omega) | (simp; done) | (simp; omega))) | (with_reducible refine bkeep hb3 ?_)))))
        (first
          | (go_at_call 79; refine (SP _).mono ?_; rintro e w3 ⟨rfl, hb3⟩; have C3 := Lib.hid (show Below wr.heap.size wr w3 by (repeat (first | exact Below.refl _ _ | refine Below.setCell ?_ (by first | (simp; done) | (simp; omega) | omega) _ | refine belowN ?_ _ | refine Below.drew ?_ | refine Below.alloc ?_ (by first | (simp; done) | (simp; omega) | omega) _ | refine Below.trans ?_ (Below.mono (by assumption) (by first | (simp; done) | (simp; omega) | omega))))); have s3 := C3.out.size; have O3 := Lib.hid (ownsRow_keep HOWN.out C3.out))
          | (refine step_append_str _ rfl _ _ 63 9 rfl w.heap.size 5 i0 Tryd.underlying63 Tryd.underlying9 hi hz0 hz1 hz2 _ _ _ rfl O3.out _ rfl (by unfold maxLen; simp; omega) (by simp; omega) (by first | omega | (show w.heap.size ≤ w3.heap.size; omega)) ?_; intro v' w4 hown4 hgrow4; have B4 := Lib.hid (show Below w.heap.size w w4 from (hbw.trans (C3.out.mono sw)).grown hgrow4 (by first | omega | (show w.heap.size ≤ w3.heap.size; omega)) (fun j hj => own_block_ge O3.out j hj)); obtain ⟨y0, y1⟩ := HP.out.below B4.out; obtain ⟨y2⟩ := HQ.out.below B4.out; have e0 := cell_below B4.out HC0.out; have e1 := cell_below B4.out HC1.out; have e2 := cell_below B4.out HC2'.out; have e3 := cell_below B4.out HD0.out))
      clear y0 y1 y2 e0 e1 e2 e3
      go_wp2
      go_roundw
      case rel =>
        refine ⟨k + 1, v', by omega, by go_num, rfl, ?_, B4.out⟩
        rw [HL.out, List.length_append, bC_app, ← Lib.strCells_eq, ← Lib.size_eq]
        exact hown4
      case measure => simp [intOf]; omega
    · obtain rfl : k = P.length := by omega
      obtain ⟨g, n', cp, rfl, hcv⟩ := conv_any hown rfl
      clear hown
      generalize hLL : aLs S P P.length = LL at *
      go_wp2
      go_ret
      subst hLL
      exact ⟨rfl, hbw⟩

theorem specAssemblyText_law (vg1 vt1 : Value) (S1 : Set_) (v2 : Value) (P2 : List Pl) (w : World) (h1 : SetIn w vg1 vt1 S1) (_s1 : ∃ a k q, vg1 = .slice (some a) k q) (ok1 : S1.ok) (m1 : S1.small) (h2 : Plcs w v2 P2) (_s2 : ∃ a k q, v2 = .slice (some a) k q) (_o2 : ∀ p ∈ P2, p.ok) (_m2 : P2.length ≤ 1048576) :
    Calls Tryd.prog 18 #[.agg #[vg1, vt1], .agg #[v2]] w fun e w' => e = .returned (.string (atT S1 P2)) ∧ Below w.heap.size w w' := by
  have HS := Lib.hid h1
  have HV := Lib.hid h2
  have HB := Lib.hid (boxes_sa w vg1 vt1 v2 36 47)
  clear h1 h2
  have E : vaB S1 P2 = (validB S1 && aOkB S1.ts.length P2) := by unfold vaB aOkB; rw [Bool.and_assoc]
  cases hb : validB S1
  · have K := Lib.hid (atT_no (S := S1) (P := P2) (by rw [E, hb]; rfl))
    go_enter Tryd.func18, Tryd.ntmps18
    go_wp2_with fail
    refine (l02Ok_any w.heap.size vg1 vt1 S1 _ HB.out.1 (HS.out.below (by (repeat (first | exact Below.refl _ _ | refine Below.setCell ?_ (by first | (simp; done) | (simp; omega) | omega) _ | refine belowN ?_ _ | refine Below.drew ?_ | refine Below.alloc ?_ (by first | (simp; done) | (simp; omega) | omega) _ | refine Below.trans ?_ (Below.mono (by assumption) (by first | (simp; done) | (simp; omega) | omega)))))) ok1 m1).mono ?_
    rw [hb]
    rintro e w1 ⟨rfl, hb1⟩
    go_wp2
    go_ret
    exact ⟨by rw [K.out]; rfl, by (repeat (first | exact Below.refl _ _ | refine Below.setCell ?_ (by first | (simp; done) | (simp; omega) | omega) _ | refine belowN ?_ _ | refine Below.drew ?_ | refine Below.alloc ?_ (by first | (simp; done) | (simp; omega) | omega) _ | refine Below.trans ?_ (Below.mono (by assumption) (by first | (simp; done) | (simp; omega) | omega))))⟩
  · go_enter Tryd.func18, Tryd.ntmps18
    go_wp2_with fail
    refine (l02Ok_any w.heap.size vg1 vt1 S1 _ HB.out.1 (HS.out.below (by (repeat (first | exact Below.refl _ _ | refine Below.setCell ?_ (by first | (simp; done) | (simp; omega) | omega) _ | refine belowN ?_ _ | refine Below.drew ?_ | refine Below.alloc ?_ (by first | (simp; done) | (simp; omega) | omega) _ | refine Below.trans ?_ (Below.mono (by assumption) (by first | (simp; done) | (simp; omega) | omega)))))) ok1 m1).mono ?_
    rw [hb]
    rintro e w1 ⟨rfl, hb1⟩
    have B1 : Below w.heap.size w w1 := by (repeat (first | exact Below.refl _ _ | refine Below.setCell ?_ (by first | (simp; done) | (simp; omega) | omega) _ | refine belowN ?_ _ | refine Below.drew ?_ | refine Below.alloc ?_ (by first | (simp; done) | (simp; omega) | omega) _ | refine Below.trans ?_ (Below.mono (by assumption) (by first | (simp; done) | (simp; omega) | omega))))
    have A1 := Lib.hid (HB.out.1.below hb1)
    have Q1 := Lib.hid (HB.out.2.below hb1)
    clear hb1
    cases ha : aOkB S1.ts.length P2
    · have K := Lib.hid (atT_no (S := S1) (P := P2) (by rw [E, ha, Bool.and_false]))
      go_wp2_with fail
      refine (l03Ok_any w.heap.size (w.heap.size + 1) vg1 vt1 v2 S1 P2 _ A1.out Q1.out (HS.out.below B1) m1 (HV.out.below B1)).mono ?_
      rw [ha]
      rintro e w2 ⟨rfl, hb2⟩
      go_wp2
      go_ret
      exact ⟨by rw [K.out]; rfl, B1.trans (hb2.mono B1.size)⟩
    · have hva : vaB S1 P2 = true := by rw [E, hb, ha]; rfl
      have K := Lib.hid (atT_yes hva)
      have V := vAs_iff.1 hva
      go_wp2_with fail
      refine (l03Ok_any w.heap.size (w.heap.size + 1) vg1 vt1 v2 S1 P2 _ A1.out Q1.out (HS.out.below B1) m1 (HV.out.below B1)).mono ?_
      rw [ha]
      rintro e w2 ⟨rfl, hb2⟩
      have B2 : Below w.heap.size w w2 := B1.trans (hb2.mono B1.size)
      have A2 := Lib.hid (A1.out.below hb2)
      have Q2 := Lib.hid (Q1.out.below hb2)
      clear hb2
      go_wp2_with fail
      refine (l05Assembly_any w.heap.size (w.heap.size + 1) vg1 vt1 v2 S1 P2 _ A2.out Q2.out (HS.out.below B2) (HV.out.below B2) V).mono ?_
      rintro e w3 ⟨rfl, hb3⟩
      go_wp2
      go_ret
      exact ⟨by rw [K.out]; rfl, B2.trans (hb3.mono B2.size)⟩

end Go.Proofs.YtggpmailkkpdaaaDoor
