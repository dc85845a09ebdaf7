/-
  The grid of an assembly, the program's. Conditions: each theorem's own; it reads the library's listed table of powers of ten.
-/
import Derived.Test.YtggpmailkkpdaaaDoorGrd
import Derived.Test.YtggpmailkkpdaaaDoorWRune
import Derived.Test.YtggpmailkkpdaaaDoorPtsI
import Derived.WalkMore
namespace Go.Proofs.YtggpmailkkpdaaaDoor
open Go.RowKit

set_option maxRecDepth 100000 in
set_option maxHeartbeats 8000000 in
set_option linter.unusedSimpArgs false in
theorem implGridText_law (vg1 vt1 : Value) (S1 : Set_) (v2 : Value) (P2 : List Pl) (w : World) (h1 : SetIn w vg1 vt1 S1) (s1 : ∃ a k q, vg1 = .slice (some a) k q) (ok1 : S1.ok) (m1 : S1.small) (h2 : Plcs w v2 P2) (s2 : ∃ a k q, v2 = .slice (some a) k q) (o2 : ∀ p ∈ P2, p.ok) (m2 : P2.length ≤ 1048576) (hT : Tab w) :
    Calls Tryd.prog 23 #[.agg #[vg1, vt1], .agg #[v2]] w fun e w' => e = .returned (.string (gtT S1 P2)) ∧ Below w.heap.size w w' := by
  have HS := Lib.hid h1
  have HVP := Lib.hid h2
  have HB := Lib.hid (boxes_sa w vg1 vt1 v2 36 47)
  have L := fun w a b => implValidAssembly_law vg1 vt1 S1 v2 P2 w a s1 ok1 m1 b s2 o2 m2
  cases hb : vaB S1 P2
  · have K := gtT_no (S := S1) (P := P2) (fun h => by rw [hb] at h; exact absurd h.1 (by decide))
    rw [hb] at L
    clear h1 h2 hT
    obtain ⟨x0, x1⟩ := HB.out.1
    obtain ⟨q0⟩ := HB.out.2
    go_enter Tryd.func23, Tryd.ntmps23
    go_wp2_with fail
    go_step3
    go_wp2_with fail
    refine (L _ (HS.out.below (by (repeat (first | exact Below.refl _ _ | refine Below.setCell ?_ (by first | (simp; done) | (simp; omega) | omega) _ | refine belowN ?_ _ | refine Below.drew ?_ | refine Below.alloc ?_ (by first | (simp; done) | (simp; omega) | omega) _ | refine Below.trans ?_ (Below.mono (by assumption) (by first | (simp; done) | (simp; omega) | omega)))))) (HVP.out.below (by (repeat (first | exact Below.refl _ _ | refine Below.setCell ?_ (by first | (simp; done) | (simp; omega) | omega) _ | refine belowN ?_ _ | refine Below.drew ?_ | refine Below.alloc ?_ (by first | (simp; done) | (simp; omega) | omega) _ | refine Below.trans ?_ (Below.mono (by assumption) (by first | (simp; done) | (simp; omega) | omega))))))).mono ?_
    rintro e w1 ⟨rfl, hb1⟩
    go_wp2
    (try rw [Exit.noGoto_ret])
    go_ret
    exact ⟨by rw [K]; rfl, by (repeat (first | exact Below.refl _ _ | refine Below.setCell ?_ (by first | (simp; done) | (simp; omega) | omega) _ | refine belowN ?_ _ | refine Below.drew ?_ | refine Below.alloc ?_ (by first | (simp; done) | (simp; omega) | omega) _ | refine Below.trans ?_ (Below.mono (by assumption) (by first | (simp; done) | (simp; omega) | omega))))⟩
  · have HV := Lib.hid (vAs_iff.1 hb)
    rw [hb] at L
    have HT := Lib.hid hT
    have hTl := hT.lt
    have hpl := HV.out.f.len
    have PO := fun w a => implPointsOf_law v2 P2 w a s2 o2 m2
    have TM := fun w a => tilesByPoint_any v2 P2 w a HV.out.f
    obtain ⟨ao, cap, rfl, hl, hm, -⟩ := h2.open_
    unfold maxLen at hm
    clear h1 h2 hT
    obtain ⟨x0', x1'⟩ := HB.out.1
    obtain ⟨q0⟩ := HB.out.2
    go_enter Tryd.func23, Tryd.ntmps23
    go_wp2_with fail
    go_step3
    go_wp2_with fail
    refine (L _ (HS.out.below (by (repeat (first | exact Below.refl _ _ | refine Below.setCell ?_ (by first | (simp; done) | (simp; omega) | omega) _ | refine belowN ?_ _ | refine Below.drew ?_ | refine Below.alloc ?_ (by first | (simp; done) | (simp; omega) | omega) _ | refine Below.trans ?_ (Below.mono (by assumption) (by first | (simp; done) | (simp; omega) | omega)))))) (HVP.out.below (by (repeat (first | exact Below.refl _ _ | refine Below.setCell ?_ (by first | (simp; done) | (simp; omega) | omega) _ | refine belowN ?_ _ | refine Below.drew ?_ | refine Below.alloc ?_ (by first | (simp; done) | (simp; omega) | omega) _ | refine Below.trans ?_ (Below.mono (by assumption) (by first | (simp; done) | (simp; omega) | omega))))))).mono ?_
    rintro e w1 ⟨rfl, hb1⟩
    have B1 : Below w.heap.size w w1 := by (repeat (first | exact Below.refl _ _ | refine Below.setCell ?_ (by first | (simp; done) | (simp; omega) | omega) _ | refine belowN ?_ _ | refine Below.drew ?_ | refine Below.alloc ?_ (by first | (simp; done) | (simp; omega) | omega) _ | refine Below.trans ?_ (Below.mono (by assumption) (by first | (simp; done) | (simp; omega) | omega))))
    have Q1 := Lib.hid (HB.out.2.below hb1)
    have l1 : w.heap.size + 1 < w1.heap.size := Q1.out.lt
    clear hb1 L x0' x1' q0
    obtain ⟨q0⟩ := Q1.out
    by_cases h0 : P2.length = 0
    · have K := Lib.hid (gtT_no (S := S1) (P := P2) (fun h => h.2 h0))
      have hb0 : ((P2.length : Int) == 0) = true := by rw [h0]; rfl
      clear h0 PO TM
      go_wp2
      (try rw [Exit.noGoto_ret])
      go_ret
      exact ⟨by rw [K.out]; rfl, B1⟩
    · have K := Lib.hid (gtT_yes hb h0)
      have HF := Lib.hid HV.out.f
      have hb0 : ((P2.length : Int) == 0) = false := by rw [beq_eq_false_iff_ne]; omega
      have SH := gShp HF.out h0
      have LB := fun v w h => pointBounds_any v (gD P2) w h SH.pos
      obtain ⟨b1, b2, b3, b4, b5, b6, b7, b8⟩ := SH.bnd
      have e1 : (mnF (fun i => (gD P2).c i 0) ((gD P2).n - 1)) = bX0 (gD P2) := rfl
      have e2 : (mnF (fun i => (gD P2).c i 1) ((gD P2).n - 1)) = bY0 (gD P2) := rfl
      have e3 : (mxF (fun i => (gD P2).c i 0) ((gD P2).n - 1)) = bX1 (gD P2) := rfl
      have e4 : (mxF (fun i => (gD P2).c i 1) ((gD P2).n - 1)) = bY1 (gD P2) := rfl
      unfold bndV at LB
      rw [e1, e2, e3, e4] at LB
      have eq : poQ P2 = gD P2 := by rw [poQ_yes (formB_yes HF.out)]; rfl
      rw [eq] at PO
      have HQ5 : Hid (bX0 (gD P2) + (wdQ (gD P2) : Int) = bX1 (gD P2) + 1) := Lib.hid (by omega)
      have HQ6 : Hid (bY0 (gD P2) + (htQ (gD P2) : Int) = bY1 (gD P2) + 1) := Lib.hid (by omega)
      have LL := fun k => gLn_len HF.out (bX0 (gD P2)) (bY1 (gD P2)) b7.2 k
      clear e1 e2 e3 e4 hb h0 SH b5 b6 eq
      generalize bX0 (gD P2) = x0 at *
      generalize bX1 (gD P2) = x1 at *
      generalize bY0 (gD P2) = y0 at *
      generalize bY1 (gD P2) = y1 at *
      generalize wdQ (gD P2) = W at *
      generalize htQ (gD P2) = H at *
      go_wp2_with fail
      refine (PO w1 (HVP.out.below B1)).mono ?_
      rintro e w3 ⟨⟨r, rfl, hr⟩, hb3⟩
      have B3 : Below w.heap.size w w3 := B1.trans (hb3.mono B1.size)
      have Q3 := Lib.hid (Q1.out.below hb3)
      clear hb3 q0 PO
      go_wp2_with fail
      refine (LB r w3 hr.qs).mono ?_
      rintro e w4 ⟨rfl, hb4⟩
      have B4 : Below w.heap.size w w4 := B3.trans (hb4.mono B3.size)
      have Q4 := Lib.hid (Q3.out.below (show Below w3.heap.size w3 ((w4.alloc (.cells #[.int .i64 x0, .int .i64 y0] 87)).alloc (.cells #[.int .i64 x1, .int .i64 y1] 87)) from (hb4.alloc hb4.size _).alloc (by have := hb4.size; simp; omega) _))
      have B5 : Below w.heap.size w ((w4.alloc (.cells #[.int .i64 x0, .int .i64 y0] 87)).alloc (.cells #[.int .i64 x1, .int .i64 y1] 87)) := (B4.alloc B4.size _).alloc (by have := B4.size; simp; omega) _
      have A0 := Lib.hid ((At.new w4 (.int .i64 x0) (.int .i64 y0) 87).below (show Below (w4.alloc (.cells #[.int .i64 x0, .int .i64 y0] 87)).heap.size (w4.alloc (.cells #[.int .i64 x0, .int .i64 y0] 87)) ((w4.alloc (.cells #[.int .i64 x0, .int .i64 y0] 87)).alloc (.cells #[.int .i64 x1, .int .i64 y1] 87)) by (repeat (first | exact Below.refl _ _ | refine Below.setCell ?_ (by first | (simp; done) | (simp; omega) | omega) _ | refine belowN ?_ _ | refine Below.drew ?_ | refine Below.alloc ?_ (by first | (simp; done) | (simp; omega) | omega) _ | refine Below.trans ?_ (Below.mono (by assumption) (by first | (simp; done) | (simp; omega) | omega))))))
      have A1 := Lib.hid (At.new (w4.alloc (.cells #[.int .i64 x0, .int .i64 y0] 87)) (.int .i64 x1) (.int .i64 y1) 87)
      simp only [World.size_alloc] at A1
      obtain ⟨q0⟩ := Q4.out
      clear LB hb4 hr
      go_wp2_with fail
      refine (TM _ (HVP.out.below B5)).mono ?_
      rintro e w6 ⟨⟨mb, rfl, hmb, hmap⟩, hb6⟩
      have B6 : Below w.heap.size w w6 := B5.trans (hb6.mono B5.size)
      have C0 := Lib.hid (A0.out.below hb6)
      have C1 := Lib.hid (A1.out.below hb6)
      have HM := Lib.hid hmap
      have hml : mb < w6.heap.size := World.ownsMap.lt hmap
      have D0 := Lib.hid (Bld.new w6)
      have l6 : w4.heap.size + 1 < w6.heap.size := C1.out.lt
      clear TM hb6 hmap q0 A0 A1 B5 Q4
      obtain ⟨c0, c1⟩ := C0.out
      obtain ⟨d0, d1⟩ := C1.out
      go_wp2_with fail
      go_step3
      go_wp2_with fail
      clear c0 c1 d0 d1
      go_loopw [9] (fun y wr => ∃ (k : Nat), k ≤ H ∧ y = .int .i64 (y1 - (k : Int)) ∧ Hid (Bld wr w6.heap.size w6.heap.size (gLn P2 x0 y1 W k)) ∧ Below w6.heap.size w6 wr) (fun y _ => (intOf y - y0 + 1).toNat)
      case atStart => exact ⟨0, by omega, by simp, D0, by (repeat (first | exact Below.refl _ _ | refine Below.setCell ?_ (by first | (simp; done) | (simp; omega) | omega) _ | refine belowN ?_ _ | refine Below.drew ?_ | refine Below.alloc ?_ (by first | (simp; done) | (simp; omega) | omega) _ | refine Below.trans ?_ (Below.mono (by assumption) (by first | (simp; done) | (simp; omega) | omega))))⟩
      case round =>
        obtain ⟨k, hk, rfl, hbd, hbw⟩ := hrel
        have sw := hbw.size
        have lk := LL k
        obtain ⟨c0, c1⟩ := C0.out.below hbw
        obtain ⟨d0, d1⟩ := C1.out.below hbw
        by_cases hkH : k < H
        · have hq6 := HQ6.out
          have hq5 := HQ5.out
          have hge : y0 ≤ y1 - (k : Int) := by omega
          have hgeY : y1 - ((k + 1 : Nat) : Int) = y1 - (k : Int) - 1 := by omega
          have HGL : Hid (gLn P2 x0 y1 W (k + 1) = gLn P2 x0 y1 W k ++ gR P2 x0 (y1 - (k : Int)) W ++ [10]) := Lib.hid rfl
          have hyr : -60 ≤ y1 - (k : Int) ∧ y1 - (k : Int) ≤ 60 := by omega
          generalize hY : y1 - (k : Int) = Y at *
          generalize hGG : gLn P2 x0 y1 W k = GG at *
          go_wp2_with fail
          clear c0 c1 d0 d1
          go_loopw [10] (fun x wq => ∃ (i : Nat), i < W ∧ x = .int .i64 (x0 + (i : Int)) ∧ Hid (Bld wq w6.heap.size w6.heap.size (GG ++ gP P2 x0 Y i)) ∧ Below w6.heap.size w6 wq) (fun x _ => (x1 - intOf x + 1).toNat)
          case atStart => exact ⟨0, by omega, by simp, Lib.hid (by simpa [gP] using hbd.out), hbw⟩
          case round =>
            clear hbd hbw sw
            obtain ⟨i, hiW, rfl, hbd, hbw⟩ := hrel
            have sw := hbw.size
            have lb := hbd.out.lt
            have ll := gP_len HF.out x0 Y i
            have hZl : (GG ++ gP P2 x0 Y i).length ≤ 121 * 2663 + 121 * 22 := by rw [List.length_append]; omega
            have BW : Below w.heap.size w wr := B6.trans (hbw.mono B6.size)
            have hpt : ptB (x0 + (i : Int)) Y = true := ptB_iff.2 ⟨by omega, hyr⟩
            have hgs := gW_size HF.out (x0 + (i : Int)) Y
            have HGP : Hid (GG ++ gP P2 x0 Y (i + 1) = GG ++ gP P2 x0 Y i ++ (gW P2 (x0 + (i : Int)) Y).data.toList ++ [UInt8.ofNat 32]) := Lib.hid (by simp [gP])
            have HGR : Hid (GG ++ gR P2 x0 Y (i + 1) ++ [10] = GG ++ gP P2 x0 Y i ++ (gW P2 (x0 + (i : Int)) Y).data.toList ++ [UInt8.ofNat 10]) := Lib.hid (by simp [gR])
            have hgen : x0 + ((i + 1 : Nat) : Int) = x0 + (i : Int) + 1 := by omega
            generalize hX : x0 + (i : Int) = X at *
            generalize hGW : gW P2 X Y = TB at *
            generalize hZ : GG ++ gP P2 x0 Y i = Z at *
            have GW := fun w a b => gridWord_any mb P2 X Y w a HF.out hpt b
            rw [hGW] at GW
            obtain ⟨c0, c1⟩ := C0.out.below hbw
            obtain ⟨d0, d1⟩ := C1.out.below hbw
            go_wp2_with fail
            refine (GW wr (HM.out.below hbw) (HT.out.below (B := w.heap.size) BW hTl)).mono ?_
            rintro e w7 ⟨rfl, hb7⟩
            have s7 := hb7.size
            go_wp2_with fail
            refine (writeString_any w6.heap.size w6.heap.size Z TB w7 (hbd.out.below hb7) (by omega) (by omega)).mono ?_
            rintro e w8 ⟨rfl, hbd8, hb8, -⟩
            have B8 : Below w6.heap.size w6 w8 := (hbw.trans (hb7.mono sw)).trans hb8
            have s8 := hb8.size
            have hZT : (Z ++ TB.data.toList).length ≤ 121 * 2663 + 121 * 22 + 21 := by rw [List.length_append, ← Lib.size_eq]; omega
            clear c0 c1 d0 d1 GW
            obtain ⟨d0, d1⟩ := C1.out.below B8
            by_cases hlast : i + 1 = W
            · have hxe : (X == x1) = true := by rw [beq_iff_eq]; omega
              go_wp2_with fail
              refine (writeRune_any w6.heap.size w6.heap.size (Z ++ TB.data.toList) 10 w8 (by decide) hbd8 (by omega) (by omega)).mono ?_
              rintro e w9 ⟨⟨v9, rfl⟩, hbd9, hb9⟩
              go_wp2
              go_roundw
              case rel =>
                refine ⟨k + 1, by omega, by rw [hgeY], Lib.hid ?_, B8.trans hb9⟩
                rw [HGL.out, ← hlast, HGR.out]
                exact hbd9
              case measure => simp [intOf]; omega
            · have hxe : (X == x1) = false := by rw [beq_eq_false_iff_ne]; omega
              go_wp2_with fail
              refine (writeRune_any w6.heap.size w6.heap.size (Z ++ TB.data.toList) 32 w8 (by decide) hbd8 (by omega) (by omega)).mono ?_
              rintro e w9 ⟨⟨v9, rfl⟩, hbd9, hb9⟩
              go_wp2
              go_roundw
              case rel =>
                refine ⟨i + 1, by omega, by rw [hgen], Lib.hid ?_, B8.trans hb9⟩
                rw [HGP.out]
                exact hbd9
              case measure => simp [intOf]; omega
        · obtain rfl : k = H := by omega
          have hq6 := HQ6.out
          have hge : ¬ y0 ≤ y1 - (k : Int) := by omega
          have ST := Tryd.Builder_String_any w6.heap.size w6.heap.size (gLn P2 x0 y1 W k) wr hbd.out sw
          go_wp2_with fail
          refine ST.mono ?_
          rintro e w7 ⟨rfl, hb7⟩
          go_wp2
          (try rw [Exit.noGoto_ret])
          go_ret
          exact ⟨by rw [K.out]; rfl, B6.trans ((hbw.trans hb7).mono B6.size)⟩

end Go.Proofs.YtggpmailkkpdaaaDoor
