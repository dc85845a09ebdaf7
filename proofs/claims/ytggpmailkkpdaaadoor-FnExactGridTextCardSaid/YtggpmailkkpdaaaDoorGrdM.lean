/-
  The grid of an assembly, the model's. Conditions: each theorem's own.
-/
import Derived.Test.YtggpmailkkpdaaaDoorGrd
import Derived.Test.YtggpmailkkpdaaaDoorSetM
import Derived.Test.YtggpmailkkpdaaaDoorIdx
namespace Go.Proofs.YtggpmailkkpdaaaDoor
open Go.RowKit

set_option maxRecDepth 100000 in
set_option maxHeartbeats 8000000 in
set_option linter.unusedSimpArgs false in
theorem specGridText_law (vg1 vt1 : Value) (S1 : Set_) (v2 : Value) (P2 : List Pl) (w : World) (h1 : SetIn w vg1 vt1 S1) (_s1 : ∃ a k q, vg1 = .slice (some a) k q) (ok1 : S1.ok) (m1 : S1.small) (h2 : Plcs w v2 P2) (_s2 : ∃ a k q, v2 = .slice (some a) k q) (_o2 : ∀ p ∈ P2, p.ok) (m2 : P2.length ≤ 1048576) :
    Calls Tryd.prog 22 #[.agg #[vg1, vt1], .agg #[v2]] w fun e w' => e = .returned (.string (gtT S1 P2)) ∧ Below w.heap.size w w' := by
  have HS := Lib.hid h1
  have HV := Lib.hid h2
  have HB := Lib.hid (boxes_sa w vg1 vt1 v2 36 47)
  obtain ⟨ao, cap, rfl, hl, hm, -⟩ := h2.open_
  clear h1 h2
  have E : vaB S1 P2 = (validB S1 && aOkB S1.ts.length P2) := by unfold vaB aOkB; rw [Bool.and_assoc]
  cases hb : validB S1
  · have K := Lib.hid (gtT_no (S := S1) (P := P2) (by rw [E, hb]; simp))
    clear hl hm
    go_enter Tryd.func22, Tryd.ntmps22
    go_wp2_with fail
    refine (l02Ok_any w.heap.size vg1 vt1 S1 _ HB.out.1 (HS.out.below (by (repeat (first | exact Below.refl _ _ | refine Below.setCell ?_ (by first | (simp; done) | (simp; omega) | omega) _ | refine belowN ?_ _ | refine Below.drew ?_ | refine Below.alloc ?_ (by first | (simp; done) | (simp; omega) | omega) _ | refine Below.trans ?_ (Below.mono (by assumption) (by first | (simp; done) | (simp; omega) | omega)))))) ok1 m1).mono ?_
    rw [hb]
    rintro e w1 ⟨rfl, hb1⟩
    go_wp2
    go_ret
    exact ⟨by rw [K.out]; rfl, by (repeat (first | exact Below.refl _ _ | refine Below.setCell ?_ (by first | (simp; done) | (simp; omega) | omega) _ | refine belowN ?_ _ | refine Below.drew ?_ | refine Below.alloc ?_ (by first | (simp; done) | (simp; omega) | omega) _ | refine Below.trans ?_ (Below.mono (by assumption) (by first | (simp; done) | (simp; omega) | omega))))⟩
  · go_enter Tryd.func22, Tryd.ntmps22
    go_wp2_with fail
    refine (l02Ok_any w.heap.size vg1 vt1 S1 _ HB.out.1 (HS.out.below (by (repeat (first | exact Below.refl _ _ | refine Below.setCell ?_ (by first | (simp; done) | (simp; omega) | omega) _ | refine belowN ?_ _ | refine Below.drew ?_ | refine Below.alloc ?_ (by first | (simp; done) | (simp; omega) | omega) _ | refine Below.trans ?_ (Below.mono (by assumption) (by first | (simp; done) | (simp; omega) | omega)))))) ok1 m1).mono ?_
    rw [hb]
    rintro e w1 ⟨rfl, hb1⟩
    have B1 : Below w.heap.size w w1 := by (repeat (first | exact Below.refl _ _ | refine Below.setCell ?_ (by first | (simp; done) | (simp; omega) | omega) _ | refine belowN ?_ _ | refine Below.drew ?_ | refine Below.alloc ?_ (by first | (simp; done) | (simp; omega) | omega) _ | refine Below.trans ?_ (Below.mono (by assumption) (by first | (simp; done) | (simp; omega) | omega))))
    have A1 := Lib.hid (HB.out.1.below hb1)
    have Q1 := Lib.hid (HB.out.2.below hb1)
    clear hb1
    cases ha : aOkB S1.ts.length P2
    · have K := Lib.hid (gtT_no (S := S1) (P := P2) (by rw [E, ha, Bool.and_false]; simp))
      go_wp2_with fail
      refine (l03Ok_any w.heap.size (w.heap.size + 1) vg1 vt1 (.slice ao P2.length cap) S1 P2 _ A1.out Q1.out (HS.out.below B1) m1 (HV.out.below B1)).mono ?_
      rw [ha]
      rintro e w2 ⟨rfl, hb2⟩
      go_wp2
      go_ret
      exact ⟨by rw [K.out]; rfl, B1.trans (hb2.mono B1.size)⟩
    · have hva : vaB S1 P2 = true := by rw [E, hb, ha]; rfl
      go_wp2_with fail
      refine (l03Ok_any w.heap.size (w.heap.size + 1) vg1 vt1 (.slice ao P2.length cap) S1 P2 _ A1.out Q1.out (HS.out.below B1) m1 (HV.out.below B1)).mono ?_
      rw [ha]
      rintro e w2 ⟨rfl, hb2⟩
      have B2 : Below w.heap.size w w2 := B1.trans (hb2.mono B1.size)
      have Q2 := Lib.hid (Q1.out.below hb2)
      have l2 := Q2.out.lt
      obtain ⟨q0⟩ := Q2.out
      clear hb2 ha hb E
      by_cases h0 : P2.length = 0
      · have K := Lib.hid (gtT_no (S := S1) (P := P2) (fun h => h.2 h0))
        have hb0 : ((P2.length : Int) == 0) = true := by rw [h0]; rfl
        clear h0
        go_wp2
        go_ret
        exact ⟨by rw [K.out]; rfl, B2⟩
      · have K := Lib.hid (gtT_yes hva h0)
        have HF := Lib.hid (vAs_iff.1 hva).f
        have hb0 : ((P2.length : Int) == 0) = false := by rw [beq_eq_false_iff_ne]; omega
        have hlen := HF.out.len
        have SH := gShp HF.out h0
        have LB := fun v w h => l03Bounds_any v (gD P2) w h SH.pos (by have := SH.len; omega)
        obtain ⟨b1, b2, b3, b4, b5, b6, b7, b8⟩ := SH.bnd
        have e1 : (mnF (fun i => (gD P2).c i 0) ((gD P2).n - 1)) = bX0 (gD P2) := rfl
        have e2 : (mnF (fun i => (gD P2).c i 1) ((gD P2).n - 1)) = bY0 (gD P2) := rfl
        have e3 : (mxF (fun i => (gD P2).c i 0) ((gD P2).n - 1)) = bX1 (gD P2) := rfl
        have e4 : (mxF (fun i => (gD P2).c i 1) ((gD P2).n - 1)) = bY1 (gD P2) := rfl
        rw [e1, e2, e3, e4] at LB
        have HQ5 : Hid (bX0 (gD P2) + (wdQ (gD P2) : Int) = bX1 (gD P2) + 1) := Lib.hid (by omega)
        have HQ6 : Hid (bY0 (gD P2) + (htQ (gD P2) : Int) = bY1 (gD P2) + 1) := Lib.hid (by omega)
        have LP := fun k => gLn_pos P2 (bX0 (gD P2)) (bY1 (gD P2)) (wdQ (gD P2)) k
        have LL := fun k => gLn_len HF.out (bX0 (gD P2)) (bY1 (gD P2)) b7.2 k
        clear e1 e2 e3 e4 hva h0 SH b5 b6
        generalize bX0 (gD P2) = x0 at *
        generalize bX1 (gD P2) = x1 at *
        generalize bY0 (gD P2) = y0 at *
        generalize bY1 (gD P2) = y1 at *
        generalize wdQ (gD P2) = W at *
        generalize htQ (gD P2) = H at *
        obtain ⟨i0, hi, hz0, hz1, hz2⟩ := info_parts info_u8
        go_wp2_with fail
        refine (l03Points_any (w.heap.size + 1) _ P2 _ Q2.out (HV.out.below B2) m2).mono ?_
        rintro e w3 ⟨⟨r, rfl, hr⟩, hb3⟩
        have B3 : Below w.heap.size w w3 := B2.trans (hb3.mono B2.size)
        have Q3 := Lib.hid (Q2.out.below hb3)
        clear hb3 q0
        go_wp2_with fail
        refine (LB r w3 hr.qs).mono ?_
        rintro e w4 ⟨rfl, hb4⟩
        have B4 : Below w.heap.size w w4 := B3.trans (hb4.mono B3.size)
        have Q4 := Lib.hid (Q3.out.below hb4)
        have l4 := Q4.out.lt
        clear LB hb4 hr
        go_wp2_with fail
        have A0 := Lib.hid ((At.new w4 (.int .i64 x0) (.int .i64 y0) 87).below (show Below (w4.alloc (.cells #[.int .i64 x0, .int .i64 y0] 87)).heap.size (w4.alloc (.cells #[.int .i64 x0, .int .i64 y0] 87)) (((w4.alloc (.cells #[.int .i64 x0, .int .i64 y0] 87)).alloc (.cells #[.int .i64 x1, .int .i64 y1] 87)).alloc (.cells #[] 5)) by (repeat (first | exact Below.refl _ _ | refine Below.setCell ?_ (by first | (simp; done) | (simp; omega) | omega) _ | refine belowN ?_ _ | refine Below.drew ?_ | refine Below.alloc ?_ (by first | (simp; done) | (simp; omega) | omega) _ | refine Below.trans ?_ (Below.mono (by assumption) (by first | (simp; done) | (simp; omega) | omega))))))
        have A1' := Lib.hid ((At.new (w4.alloc (.cells #[.int .i64 x0, .int .i64 y0] 87)) (.int .i64 x1) (.int .i64 y1) 87).below (show Below ((w4.alloc (.cells #[.int .i64 x0, .int .i64 y0] 87)).alloc (.cells #[.int .i64 x1, .int .i64 y1] 87)).heap.size _ (((w4.alloc (.cells #[.int .i64 x0, .int .i64 y0] 87)).alloc (.cells #[.int .i64 x1, .int .i64 y1] 87)).alloc (.cells #[] 5)) by (repeat (first | exact Below.refl _ _ | refine Below.setCell ?_ (by first | (simp; done) | (simp; omega) | omega) _ | refine belowN ?_ _ | refine Below.drew ?_ | refine Below.alloc ?_ (by first | (simp; done) | (simp; omega) | omega) _ | refine Below.trans ?_ (Below.mono (by assumption) (by first | (simp; done) | (simp; omega) | omega))))))
        simp only [World.size_alloc] at A1'
        go_loopw [7, 8] (fun out y wr => ∃ (k : Nat) (u : Value), k ≤ H ∧ y = .int .i64 (y1 - (k : Int)) ∧ u = out ∧ wr.ownsRow (w4.heap.size + 1 + 1) 5 1 u (gLn P2 x0 y1 W k).length (Lib.byteCells (gLn P2 x0 y1 W k)) ∧ At wr w4.heap.size (.int .i64 x0) (.int .i64 y0) ∧ At wr (w4.heap.size + 1) (.int .i64 x1) (.int .i64 y1) ∧ Below w4.heap.size w4 wr) (fun _ y _ => (intOf y - y0 + 1).toNat)
        case atStart =>
          have h0 := World.ownsRow_lit (base := w4.heap.size + 1 + 1) (e := 5) (size := 1) ((w4.alloc (.cells #[.int .i64 x0, .int .i64 y0] 87)).alloc (.cells #[.int .i64 x1, .int .i64 y1] 87)) #[] 0 (by simp) (Nat.zero_le _) rfl
          simp only [World.size_alloc] at h0
          exact ⟨0, .slice (some ⟨w4.heap.size + 1 + 1, 0, none⟩) 0 0, by omega, by simp, rfl, h0, A0.out, A1'.out, by (repeat (first | exact Below.refl _ _ | refine Below.setCell ?_ (by first | (simp; done) | (simp; omega) | omega) _ | refine belowN ?_ _ | refine Below.drew ?_ | refine Below.alloc ?_ (by first | (simp; done) | (simp; omega) | omega) _ | refine Below.trans ?_ (Below.mono (by assumption) (by first | (simp; done) | (simp; omega) | omega))))⟩
        case round =>
          obtain ⟨k, u, hk, rfl, rfl, hown, ha0, ha1, hbw⟩ := hrel
          have sw := hbw.size
          have l1 := ha1.lt
          have lk := LL k
          clear A0 A1'
          by_cases hkH : k < H
          · have hq6 := HQ6.out
            have hq5 := HQ5.out
            have hge : y0 ≤ y1 - (k : Int) := by omega
            have hgeY : y1 - ((k + 1 : Nat) : Int) = y1 - (k : Int) - 1 := by omega
            obtain ⟨c0, c1⟩ := id ha0
            obtain ⟨d0, d1⟩ := id ha1
            have HA0 := Lib.hid ha0
            have HA1 := Lib.hid ha1
            have HGL : Hid (gLn P2 x0 y1 W (k + 1) = gLn P2 x0 y1 W k ++ gR P2 x0 (y1 - (k : Int)) W ++ [10]) := Lib.hid rfl
            clear ha0 ha1
            generalize hY : y1 - (k : Int) = Y at *
            generalize hGG : gLn P2 x0 y1 W k = GG at *
            go_wp2_with fail
            go_loopw [7, 9] (fun out x wq => ∃ (i : Nat) (u : Value), i ≤ W ∧ x = .int .i64 (x0 + (i : Int)) ∧ u = out ∧ wq.ownsRow (w4.heap.size + 1 + 1) 5 1 u (GG ++ gR P2 x0 Y i).length (Lib.byteCells (GG ++ gR P2 x0 Y i)) ∧ At wq w4.heap.size (.int .i64 x0) (.int .i64 y0) ∧ At wq (w4.heap.size + 1) (.int .i64 x1) (.int .i64 y1) ∧ Below w4.heap.size w4 wq) (fun _ x _ => (x1 - intOf x + 1).toNat)
            case atStart => exact ⟨0, _, by omega, by simp, rfl, by simpa [gR] using hown, HA0.out, HA1.out, hbw⟩
            case round =>
              clear hown hbw c0 c1 d0 d1 HA0 HA1 sw l1
              obtain ⟨i, u, hi', rfl, rfl, hown, ha0, ha1, hbw⟩ := hrel
              have sw := hbw.size
              have l1 := ha1.lt
              have ll := gR_len HF.out x0 Y i
              have hZl : (GG ++ gR P2 x0 Y i).length ≤ 121 * 2663 + 121 * 22 := by rw [List.length_append]; omega
              have BW : Below w.heap.size w wr := B4.trans (hbw.mono B4.size)
              obtain ⟨c0, c1⟩ := id ha0
              obtain ⟨d0, d1⟩ := id ha1
              have HA0 := Lib.hid ha0
              have HA1 := Lib.hid ha1
              clear ha0 ha1
              by_cases hiW : i < W
              · have hle : x0 + (i : Int) ≤ x1 := by omega
                by_cases hi0 : i = 0
                · subst hi0
                  have hgt : ¬ x0 + ((0 : Nat) : Int) > x0 := by omega
                  have HGR0 : GG ++ gR P2 x0 Y (0 + 1) = (GG ++ gR P2 x0 Y 0) ++ (gW P2 (x0 + ((0 : Nat) : Int)) Y).data.toList := by simp [gR, gP]
                  generalize hX : x0 + ((0 : Nat) : Int) = X at *
                  have hgen : x0 + ((0 + 1 : Nat) : Int) = X + 1 := by omega
                  generalize hZ : GG ++ gR P2 x0 Y 0 = Z at *
                  by_cases hix : ixN P2 X Y < P2.length
                  · have hat : atI P2 X Y = pT P2 (ixN P2 X Y) := by unfold atI; rw [if_pos hix]
                    have hti := gT_in HF.out hix
                    have hgs := gW_size HF.out X Y
                    rw [gW_yes hix] at HGR0 hgs
                    generalize pT P2 (ixN P2 X Y) = T at *
                    have hT0 : ¬ T < 0 := by omega
                    generalize hTB : (⟨(Lib.itoa T).toArray⟩ : ByteArray) = TB at *
                    have SD := fun w => specDecimal_any T w (by omega) (by omega)
                    rw [hTB] at SD
                    have HGR := Lib.hid HGR0
                    clear HGR0 hTB hix
                    go_wp2_with (first
                      | (go_at_call 51; refine (l03At_any (w.heap.size + 1) (.slice ao P2.length cap) P2 X Y _ (Q4.out.below hbw) (HV.out.below BW) HF.out).mono ?_; rw [hat]; rintro e w6 ⟨rfl, hb6⟩; have s6 := hb6.size; have O6 := ownsRow_keep hown hb6)
                      | (go_at_call 52; refine (SD _).mono ?_; rintro e w7 ⟨rfl, hb7⟩; have s7 := hb7.size; have O7 := ownsRow_keep O6 hb7)
                      | (at_builtin; refine Lib.wpList_append_own_string _ rfl _ _ 63 9 rfl (w4.heap.size + 1 + 1) 5 i0 Tryd.underlying63 Tryd.underlying9 hi hz0 hz1 hz2 _ _ _ rfl O7 _ rfl (by unfold maxLen; omega) (by omega) (by omega) ?_; intro v' w9 hown9 hgrow9 _))
                    have hB : Below (w4.heap.size + 1 + 1) wr w9 := (((Below.refl _ wr).trans (hb6.mono (by omega))).trans (hb7.mono (by omega))).grown hgrow9 (by omega) (fun j hj => own_block_ge O7 j hj)
                    go_roundw
                    case rel =>
                      refine ⟨0 + 1, v', by omega, by rw [hgen], rfl, ?_, HA0.out.belowB hB (by omega), HA1.out.belowB hB (by omega), hbw.trans (hB.mono (by omega))⟩
                      rw [HGR.out]
                      have e9 : Lib.byteCells (Z ++ TB.data.toList) = Lib.byteCells Z ++ Lib.strCells TB := by simp [Lib.byteCells, Lib.strCells]
                      have e8 : (Z ++ TB.data.toList).length = Z.length + TB.size := by rw [List.length_append, ← Lib.size_eq]
                      rw [e9, e8]
                      exact hown9
                    case measure => simp [intOf]; omega
                  · have hat : atI P2 X Y = -1 := by unfold atI; rw [if_neg hix]
                    have hT0 : (-1 : Int) < 0 := by omega
                    rw [gW_no hix] at HGR0
                    have HGR := Lib.hid (show _ = Z ++ [46] from HGR0)
                    clear HGR0 hix
                    go_wp2_with (first
                      | (go_at_call 51; refine (l03At_any (w.heap.size + 1) (.slice ao P2.length cap) P2 X Y _ (Q4.out.below hbw) (HV.out.below BW) HF.out).mono ?_; rw [hat]; rintro e w6 ⟨rfl, hb6⟩; have s6 := hb6.size; have O6 := ownsRow_keep hown hb6)
                      | (at_builtin; refine wpList_append_own _ rfl (.tmp 58) (.tmp 59) 63 rfl (w4.heap.size + 1 + 1) 5 i0 (.int .u8 0) 1 1 Tryd.underlying63 hi hz0 hz1 hz2 rfl (by decide) _ _ _ rfl (O6.alloc _) ⟨w6.heap.size, 0, none⟩ 1 1 [.int .u8 46] rfl rfl (cell_one_new _ _ _) (by intro u hu; simp at hu; subst hu; rfl) (by unfold maxLen; omega) (by omega) (by simp; omega) ?_; intro v' w9 hown9 hgrow9 _))
                    have hB : Below (w4.heap.size + 1 + 1) wr w9 := (((Below.refl _ wr).trans (hb6.mono (by omega))).alloc (by omega) _).grown hgrow9 (by simp; omega) (fun j hj => own_block_ge O6 j hj)
                    go_roundw
                    case rel =>
                      refine ⟨0 + 1, v', by omega, by rw [hgen], rfl, ?_, HA0.out.belowB hB (by omega), HA1.out.belowB hB (by omega), hbw.trans (hB.mono (by omega))⟩
                      rw [HGR.out]
                      have e9 : Lib.byteCells (Z ++ [46]) = Lib.byteCells Z ++ [.int .u8 46] := by simp [Lib.byteCells, Lib.strCells]
                      have e8 : (Z ++ [46]).length = Z.length + 1 := by simp
                      rw [e9, e8]
                      exact hown9
                    case measure => simp [intOf]; omega
                · have hgt : x0 + (i : Int) > x0 := by omega
                  have HGR0 : GG ++ gR P2 x0 Y (i + 1) = (GG ++ gR P2 x0 Y i) ++ [32] ++ (gW P2 (x0 + (i : Int)) Y).data.toList := by rw [gR_step _ _ _ _ (by omega)]; simp
                  generalize hX : x0 + (i : Int) = X at *
                  have hgen : x0 + ((i + 1 : Nat) : Int) = X + 1 := by omega
                  generalize hZ : GG ++ gR P2 x0 Y i = Z at *
                  by_cases hix : ixN P2 X Y < P2.length
                  · have hat : atI P2 X Y = pT P2 (ixN P2 X Y) := by unfold atI; rw [if_pos hix]
                    have hti := gT_in HF.out hix
                    have hgs := gW_size HF.out X Y
                    rw [gW_yes hix] at HGR0 hgs
                    generalize pT P2 (ixN P2 X Y) = T at *
                    have hT0 : ¬ T < 0 := by omega
                    generalize hTB : (⟨(Lib.itoa T).toArray⟩ : ByteArray) = TB at *
                    have SD := fun w => specDecimal_any T w (by omega) (by omega)
                    rw [hTB] at SD
                    have HGR := Lib.hid HGR0
                    clear HGR0 hTB hix
                    go_wp2_with (first
                      | (at_builtin; refine wpList_append_own _ rfl (.tmp 49) (.tmp 50) 63 rfl (w4.heap.size + 1 + 1) 5 i0 (.int .u8 0) 1 1 Tryd.underlying63 hi hz0 hz1 hz2 rfl (by decide) _ _ _ rfl (hown.alloc _) ⟨wr.heap.size, 0, none⟩ 1 1 [.int .u8 32] rfl rfl (cell_one_new _ _ _) (by intro u hu; simp at hu; subst hu; rfl) (by unfold maxLen; omega) (by omega) (by simp; omega) ?_; intro v5 w5 hown5 hgrow5 _; have hB5 : Below (w4.heap.size + 1 + 1) wr w5 := ((Below.refl _ wr).alloc (by omega) _).grown hgrow5 (by simp; omega) (fun j hj => own_block_ge hown j hj); obtain ⟨c0', c1'⟩ := HA0.out.belowB hB5 (by omega); obtain ⟨d0', d1'⟩ := HA1.out.belowB hB5 (by omega); have s5 := hB5.size)
                      | (go_at_call 51; refine (l03At_any (w.heap.size + 1) (.slice ao P2.length cap) P2 X Y _ (Q4.out.below (hbw.trans (hB5.mono (by omega)))) (HV.out.below (BW.trans (hB5.mono (by omega)))) HF.out).mono ?_; rw [hat]; rintro e w6 ⟨rfl, hb6⟩; have s6 := hb6.size; have O6 := ownsRow_keep hown5 hb6)
                      | (go_at_call 52; refine (SD _).mono ?_; rintro e w7 ⟨rfl, hb7⟩; have s7 := hb7.size; have O7 := ownsRow_keep O6 hb7)
                      | (at_builtin; refine Lib.wpList_append_own_string _ rfl _ _ 63 9 rfl (w4.heap.size + 1 + 1) 5 i0 Tryd.underlying63 Tryd.underlying9 hi hz0 hz1 hz2 _ _ _ rfl O7 _ rfl (by unfold maxLen; omega) (by omega) (by omega) ?_; intro v' w9 hown9 hgrow9 _))
                    have hB : Below (w4.heap.size + 1 + 1) wr w9 := ((hB5.trans (hb6.mono (by omega))).trans (hb7.mono (by omega))).grown hgrow9 (by omega) (fun j hj => own_block_ge O7 j hj)
                    go_roundw
                    case rel =>
                      refine ⟨i + 1, v', by omega, by rw [hgen], rfl, ?_, HA0.out.belowB hB (by omega), HA1.out.belowB hB (by omega), hbw.trans (hB.mono (by omega))⟩
                      rw [HGR.out]
                      have e9 : Lib.byteCells (Z ++ [32] ++ TB.data.toList) = (Lib.byteCells Z ++ [.int .u8 32]) ++ Lib.strCells TB := by simp [Lib.byteCells, Lib.strCells]
                      have e8 : (Z ++ [32] ++ TB.data.toList).length = Z.length + 1 + TB.size := by rw [List.length_append, List.length_append, ← Lib.size_eq]; rfl
                      rw [e9, e8]
                      exact hown9
                    case measure => simp [intOf]; omega
                  · have hat : atI P2 X Y = -1 := by unfold atI; rw [if_neg hix]
                    have hT0 : (-1 : Int) < 0 := by omega
                    rw [gW_no hix] at HGR0
                    have HGR := Lib.hid (show _ = Z ++ [32] ++ [46] from HGR0)
                    clear HGR0 hix
                    go_wp2_with (first
                      | (at_builtin; refine wpList_append_own _ rfl (.tmp 49) (.tmp 50) 63 rfl (w4.heap.size + 1 + 1) 5 i0 (.int .u8 0) 1 1 Tryd.underlying63 hi hz0 hz1 hz2 rfl (by decide) _ _ _ rfl (hown.alloc _) ⟨wr.heap.size, 0, none⟩ 1 1 [.int .u8 32] rfl rfl (cell_one_new _ _ _) (by intro u hu; simp at hu; subst hu; rfl) (by unfold maxLen; omega) (by omega) (by simp; omega) ?_; intro v5 w5 hown5 hgrow5 _; have hB5 : Below (w4.heap.size + 1 + 1) wr w5 := ((Below.refl _ wr).alloc (by omega) _).grown hgrow5 (by simp; omega) (fun j hj => own_block_ge hown j hj); obtain ⟨c0', c1'⟩ := HA0.out.belowB hB5 (by omega); obtain ⟨d0', d1'⟩ := HA1.out.belowB hB5 (by omega); have s5 := hB5.size)
                      | (go_at_call 51; refine (l03At_any (w.heap.size + 1) (.slice ao P2.length cap) P2 X Y _ (Q4.out.below (hbw.trans (hB5.mono (by omega)))) (HV.out.below (BW.trans (hB5.mono (by omega)))) HF.out).mono ?_; rw [hat]; rintro e w6 ⟨rfl, hb6⟩; have s6 := hb6.size; have O6 := ownsRow_keep hown5 hb6)
                      | (at_builtin; refine wpList_append_own _ rfl (.tmp 58) (.tmp 59) 63 rfl (w4.heap.size + 1 + 1) 5 i0 (.int .u8 0) 1 1 Tryd.underlying63 hi hz0 hz1 hz2 rfl (by decide) _ _ _ rfl (O6.alloc _) ⟨w6.heap.size, 0, none⟩ 1 1 [.int .u8 46] rfl rfl (cell_one_new _ _ _) (by intro u hu; simp at hu; subst hu; rfl) (by unfold maxLen; omega) (by omega) (by simp; omega) ?_; intro v' w9 hown9 hgrow9 _))
                    have hB : Below (w4.heap.size + 1 + 1) wr w9 := ((hB5.trans (hb6.mono (by omega))).alloc (by omega) _).grown hgrow9 (by simp; omega) (fun j hj => own_block_ge O6 j hj)
                    go_roundw
                    case rel =>
                      refine ⟨i + 1, v', by omega, by rw [hgen], rfl, ?_, HA0.out.belowB hB (by omega), HA1.out.belowB hB (by omega), hbw.trans (hB.mono (by omega))⟩
                      rw [HGR.out]
                      have e9 : Lib.byteCells (Z ++ [32] ++ [46]) = (Lib.byteCells Z ++ [.int .u8 32]) ++ [.int .u8 46] := by simp [Lib.byteCells, Lib.strCells]
                      have e8 : (Z ++ [32] ++ [46]).length = Z.length + 1 + 1 := by simp
                      rw [e9, e8]
                      exact hown9
                    case measure => simp [intOf]; omega
              · obtain rfl : i = W := by omega
                have hle : ¬ x0 + (i : Int) ≤ x1 := by omega
                generalize hZ : GG ++ gR P2 x0 Y i = Z at *
                go_wp2_with (at_builtin; refine wpList_append_own _ rfl _ _ 63 rfl (w4.heap.size + 1 + 1) 5 i0 (.int .u8 0) 1 1 Tryd.underlying63 hi hz0 hz1 hz2 rfl (by decide) _ _ _ rfl (hown.alloc _) ⟨wr.heap.size, 0, none⟩ 1 1 [.int .u8 10] rfl rfl (cell_one_new _ _ _) (by intro u hu; simp at hu; subst hu; rfl) (by unfold maxLen; omega) (by omega) (by simp; omega) ?_; intro v' w9 hown9 hgrow9 _)
                have hB : Below (w4.heap.size + 1 + 1) wr w9 := ((Below.refl _ wr).alloc (by omega) _).grown hgrow9 (by simp; omega) (fun j hj => own_block_ge hown j hj)
                go_roundw
                case rel =>
                  refine ⟨k + 1, v', by omega, by rw [hgeY], rfl, ?_, HA0.out.belowB hB (by omega), HA1.out.belowB hB (by omega), hbw.trans (hB.mono (by omega))⟩
                  rw [HGL.out, List.length_append, bC_app]
                  exact hown9
                case measure => simp [intOf]; omega
          · obtain rfl : k = H := by omega
            have hq6 := HQ6.out
            have hge : ¬ y0 ≤ y1 - (k : Int) := by omega
            obtain ⟨c0, c1⟩ := id ha0
            obtain ⟨g, n', cp, rfl, hcv⟩ := conv_any hown rfl
            clear hown
            generalize hLL : gLn P2 x0 y1 W k = GG at *
            go_wp2
            go_ret
            exact ⟨by rw [K.out]; rfl, B4.trans (hbw.mono B4.size)⟩

end Go.Proofs.YtggpmailkkpdaaaDoor
