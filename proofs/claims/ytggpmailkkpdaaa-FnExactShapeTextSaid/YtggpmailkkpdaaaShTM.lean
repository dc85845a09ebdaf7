/-
  ShapeText of the model. Conditions: each theorem's own.
-/
import Derived.Test.YtggpmailkkpdaaaShT
import Derived.Maps.AppendAt
import Derived.Laws.OwnMore
import Derived.Laws.IdiomStrings
namespace Go.Proofs.Ytggpmailkkpdaaa
open Go.RowKit

set_option maxRecDepth 100000 in
set_option maxHeartbeats 4000000 in
set_option linter.unusedSimpArgs false in
theorem specShT_any (v : Value) (D : Cols) (w : World) (hv : Qs w v D) :
    Calls Try.prog 20 #[v] w fun e w' => e = .returned (.string (shT D)) ∧ Below w.heap.size w w' := by
  cases hb : shB D
  · have K := shT_no hb
    have L := l04Ok_any v D w hv
    rw [hb] at L
    go_enter Try.func20, Try.ntmps20
    go_wp2_with fail
    refine L.mono ?_
    rintro e w1 ⟨rfl, hb1⟩
    go_wp2
    go_ret
    exact ⟨by rw [K]; rfl, hb1⟩
  · have K := Lib.hid (shT_yes hb)
    have L := l04Ok_any v D w hv
    rw [hb] at L
    have HF := Lib.hid (shB_iff.1 hb)
    have HV := Lib.hid hv
    have hn1 := HF.out.pos
    have hn2 := HF.out.len
    obtain ⟨q1, q2, q3, q4, q5, q6, q7, q8⟩ := HF.out.bnd
    have e1 : (mnF (fun i => D.c i 0) (D.n - 1)) = bX0 D := rfl
    have e2 : (mnF (fun i => D.c i 1) (D.n - 1)) = bY0 D := rfl
    have e3 : (mxF (fun i => D.c i 0) (D.n - 1)) = bX1 D := rfl
    have e4 : (mxF (fun i => D.c i 1) (D.n - 1)) = bY1 D := rfl
    have LB := fun w h => l03Bounds_any v D w h hn1 (by omega)
    rw [e1, e2, e3, e4] at LB
    have LEN := mrL_len D q7.2
    have LPOS := mrL_pos D q7.1
    have HQ5 := Lib.hid q5
    have HQ6 := Lib.hid q6
    generalize hX1 : bX1 D = x1 at *
    generalize hY1 : bY1 D = y1 at *
    generalize hY0 : bY0 D = y0 at *
    generalize hX0 : bX0 D = x0 at *
    generalize hW : wdQ D = W at *
    generalize hH : htQ D = H at *
    have hM : ∀ k, mrL D (k + 1) = mrL D k ++ rowL D (y1 - (k : Int)) W ++ (if k + 1 < H then [47] else []) := fun k => by rw [mrL, hY1, hW, hH]
    have hR : ∀ y i, rowL D y (i + 1) = rowL D y i ++ [mkQ D (x0 + (i : Int)) y] := fun y i => by rw [rowL, hX0]
    have HM := Lib.hid hM
    have HR := Lib.hid hR
    clear hM hR e1 e2 e3 e4 hb hv hX0 hX1 hY0 hY1 hW hH q5 q6
    obtain ⟨i0, hi, hz0, hz1, hz2⟩ := info_parts info_u8
    go_enter Try.func20, Try.ntmps20
    go_wp2_with fail
    refine L.mono ?_
    rintro e w1 ⟨rfl, hb1⟩
    have sz1 := hb1.size
    go_wp2_with fail
    refine (LB w1 (HV.out.below hb1)).mono ?_
    rintro e w2 ⟨rfl, hb2⟩
    have hb02 : Below w.heap.size w w2 := by (repeat (first | exact Below.refl _ _ | refine Below.setCell ?_ (by first | (simp; done) | (simp; omega) | omega) _ | refine belowN ?_ _ | refine Below.drew ?_ | refine Below.alloc ?_ (by first | (simp; done) | (simp; omega) | omega) _ | refine Below.trans ?_ (Below.mono (by assumption) (by first | (simp; done) | (simp; omega) | omega))))
    have sz2 := hb2.size
    clear L LB hb1 hb2
    go_wp2_with fail
    have A0 := Lib.hid ((At.new w2 (.int .i64 x0) (.int .i64 y0) 88).below (show Below (w2.alloc (.cells #[.int .i64 x0, .int .i64 y0] 88)).heap.size (w2.alloc (.cells #[.int .i64 x0, .int .i64 y0] 88)) (((w2.alloc (.cells #[.int .i64 x0, .int .i64 y0] 88)).alloc (.cells #[.int .i64 x1, .int .i64 y1] 88)).alloc (.cells #[] 5)) by (repeat (first | exact Below.refl _ _ | refine Below.setCell ?_ (by first | (simp; done) | (simp; omega) | omega) _ | refine belowN ?_ _ | refine Below.drew ?_ | refine Below.alloc ?_ (by first | (simp; done) | (simp; omega) | omega) _ | refine Below.trans ?_ (Below.mono (by assumption) (by first | (simp; done) | (simp; omega) | omega))))))
    have A1 := Lib.hid ((At.new (w2.alloc (.cells #[.int .i64 x0, .int .i64 y0] 88)) (.int .i64 x1) (.int .i64 y1) 88).below (show Below ((w2.alloc (.cells #[.int .i64 x0, .int .i64 y0] 88)).alloc (.cells #[.int .i64 x1, .int .i64 y1] 88)).heap.size _ (((w2.alloc (.cells #[.int .i64 x0, .int .i64 y0] 88)).alloc (.cells #[.int .i64 x1, .int .i64 y1] 88)).alloc (.cells #[] 5)) by (repeat (first | exact Below.refl _ _ | refine Below.setCell ?_ (by first | (simp; done) | (simp; omega) | omega) _ | refine belowN ?_ _ | refine Below.drew ?_ | refine Below.alloc ?_ (by first | (simp; done) | (simp; omega) | omega) _ | refine Below.trans ?_ (Below.mono (by assumption) (by first | (simp; done) | (simp; omega) | omega))))))
    simp only [World.size_alloc] at A1
    go_loopw [5, 6] (fun out y wr => ∃ (k : Nat) (u : Value), k ≤ H ∧ y = .int .i64 (y1 - (k : Int)) ∧ u = out ∧ wr.ownsRow (w2.heap.size + 1 + 1) 5 1 u (mrL D k).length (u8C (mrL D k)) ∧ At wr w2.heap.size (.int .i64 x0) (.int .i64 y0) ∧ At wr (w2.heap.size + 1) (.int .i64 x1) (.int .i64 y1) ∧ Below w.heap.size w wr) (fun _ y _ => (intOf y - y0 + 1).toNat)
    case atStart =>
      have h0 := World.ownsRow_lit (base := w2.heap.size + 1 + 1) (e := 5) (size := 1) ((w2.alloc (.cells #[.int .i64 x0, .int .i64 y0] 88)).alloc (.cells #[.int .i64 x1, .int .i64 y1] 88)) #[] 0 (by simp) (Nat.zero_le _) rfl
      simp only [World.size_alloc] at h0
      exact ⟨0, .slice (some ⟨w2.heap.size + 1 + 1, 0, none⟩) 0 0, by omega, by simp, rfl, h0, A0.out, A1.out, by (repeat (first | exact Below.refl _ _ | refine Below.setCell ?_ (by first | (simp; done) | (simp; omega) | omega) _ | refine belowN ?_ _ | refine Below.drew ?_ | refine Below.alloc ?_ (by first | (simp; done) | (simp; omega) | omega) _ | refine Below.trans ?_ (Below.mono (by assumption) (by first | (simp; done) | (simp; omega) | omega))))⟩
    case round =>
      obtain ⟨k, u, hk, rfl, rfl, hown, ha0, ha1, hbw⟩ := hrel
      have sw := hbw.size
      have l1 := ha1.lt
      have lk := LEN k
      clear A0 A1 hb02
      by_cases hkH : k < H
      · have hq6 : y0 + (H : Int) = y1 + 1 := by have := HQ6.out; omega
        have hq5 : x0 + (W : Int) = x1 + 1 := by have := HQ5.out; omega
        have hge : y0 ≤ y1 - (k : Int) := by omega
        obtain ⟨c0, c1⟩ := id ha0
        obtain ⟨d0, d1⟩ := id ha1
        have HA0 := Lib.hid ha0
        have HA1 := Lib.hid ha1
        clear ha0 ha1
        generalize hY : y1 - (k : Int) = Y at *
        go_wp2_with fail
        go_loopw [5, 7] (fun out x wq => ∃ (i : Nat) (u : Value), i ≤ W ∧ x = .int .i64 (x0 + (i : Int)) ∧ u = out ∧ wq.ownsRow (w2.heap.size + 1 + 1) 5 1 u (mrL D k ++ rowL D Y i).length (u8C (mrL D k ++ rowL D Y i)) ∧ At wq w2.heap.size (.int .i64 x0) (.int .i64 y0) ∧ At wq (w2.heap.size + 1) (.int .i64 x1) (.int .i64 y1) ∧ Below w.heap.size w wq) (fun _ x _ => (x1 - intOf x + 1).toNat)
        case atStart => exact ⟨0, _, by omega, by simp, rfl, by simpa [rowL] using hown, HA0.out, HA1.out, hbw⟩
        case round =>
          clear hown hbw c0 c1 d0 d1 HA0 HA1 sw l1
          obtain ⟨i, u, hi', rfl, rfl, hown, ha0, ha1, hbw⟩ := hrel
          have sw := hbw.size
          have l1 := ha1.lt
          have ll : (mrL D k ++ rowL D Y i).length = (mrL D k).length + i := by rw [List.length_append, rowL_len]
          obtain ⟨c0, c1⟩ := id ha0
          obtain ⟨d0, d1⟩ := id ha1
          have HA0 := Lib.hid ha0
          have HA1 := Lib.hid ha1
          clear ha0 ha1
          by_cases hiW : i < W
          · have hle : x0 + (i : Int) ≤ x1 := by omega
            have HE : Hid (∀ m, mkQ D (x0 + (i : Int)) Y = m → mrL D k ++ rowL D Y (i + 1) = (mrL D k ++ rowL D Y i) ++ [m]) := Lib.hid fun m hm => by rw [HR.out, hm, List.append_assoc]
            generalize hX : x0 + (i : Int) = X at *
            have hgen : x0 + ((i + 1 : Nat) : Int) = X + 1 := by omega
            generalize hZ : mrL D k ++ rowL D Y i = Z at *
            cases hh : hasQ D X Y
            · have HE2 : Hid (mrL D k ++ rowL D Y (i + 1) = Z ++ [46]) := Lib.hid (HE.out 46 (by unfold mkQ; rw [hh]; rfl))
              clear HE
              go_wp2_with (first
                | (go_at_call 54; refine (l04Has_any v D X Y _ (HV.out.below (by (repeat (first | exact Below.refl _ _ | refine Below.setCell ?_ (by first | (simp; done) | (simp; omega) | omega) _ | refine belowN ?_ _ | refine Below.drew ?_ | refine Below.alloc ?_ (by first | (simp; done) | (simp; omega) | omega) _ | refine Below.trans ?_ (Below.mono (by assumption) (by first | (simp; done) | (simp; omega) | omega)))))) HF.out).mono ?_; rw [hh]; rintro e w3 ⟨rfl, hb3⟩; have s3 := hb3.size; have O3 := ownsRow_keep hown hb3)
                | (at_builtin; refine wpList_append_own _ rfl _ _ 91 rfl (w2.heap.size + 1 + 1) 5 i0 (.int .u8 0) 1 1 Try.underlying91 hi hz0 hz1 hz2 rfl (by decide) _ _ _ rfl (O3.alloc _) ⟨w3.heap.size, 0, none⟩ 1 1 [.int .u8 46] rfl rfl (cell_one_new _ _ _) (by intro u hu; simp at hu; subst hu; rfl) (by unfold maxLen; omega) (by omega) (by simp; omega) ?_; intro v' w4 hown4 hgrow4 _))
              go_roundw
              case rel =>
                have hB : Below (w2.heap.size + 1 + 1) wr w4 := ((hb3.mono (by omega)).alloc (by omega) _).grown hgrow4 (by simp; omega) (fun j hj => own_block_ge O3 j hj)
                refine ⟨i + 1, v', by omega, by rw [hgen], rfl, ?_, HA0.out.belowB hB (by omega), HA1.out.belowB hB (by omega), hbw.trans (hB.mono (by omega))⟩
                rw [HE2.out, List.length_append, u8C_snoc]
                exact hown4
              case measure => simp [intOf]; omega
            · have HE2 : Hid (mrL D k ++ rowL D Y (i + 1) = Z ++ [35]) := Lib.hid (HE.out 35 (by unfold mkQ; rw [hh]; rfl))
              clear HE
              go_wp2_with (first
                | (go_at_call 54; refine (l04Has_any v D X Y _ (HV.out.below (by (repeat (first | exact Below.refl _ _ | refine Below.setCell ?_ (by first | (simp; done) | (simp; omega) | omega) _ | refine belowN ?_ _ | refine Below.drew ?_ | refine Below.alloc ?_ (by first | (simp; done) | (simp; omega) | omega) _ | refine Below.trans ?_ (Below.mono (by assumption) (by first | (simp; done) | (simp; omega) | omega)))))) HF.out).mono ?_; rw [hh]; rintro e w3 ⟨rfl, hb3⟩; have s3 := hb3.size; have O3 := ownsRow_keep hown hb3)
                | (at_builtin; refine wpList_append_own _ rfl _ _ 91 rfl (w2.heap.size + 1 + 1) 5 i0 (.int .u8 0) 1 1 Try.underlying91 hi hz0 hz1 hz2 rfl (by decide) _ _ _ rfl (O3.alloc _) ⟨w3.heap.size, 0, none⟩ 1 1 [.int .u8 35] rfl rfl (cell_one_new _ _ _) (by intro u hu; simp at hu; subst hu; rfl) (by unfold maxLen; omega) (by omega) (by simp; omega) ?_; intro v' w4 hown4 hgrow4 _))
              go_roundw
              case rel =>
                have hB : Below (w2.heap.size + 1 + 1) wr w4 := ((hb3.mono (by omega)).alloc (by omega) _).grown hgrow4 (by simp; omega) (fun j hj => own_block_ge O3 j hj)
                refine ⟨i + 1, v', by omega, by rw [hgen], rfl, ?_, HA0.out.belowB hB (by omega), HA1.out.belowB hB (by omega), hbw.trans (hB.mono (by omega))⟩
                rw [HE2.out, List.length_append, u8C_snoc]
                exact hown4
              case measure => simp [intOf]; omega
          · obtain rfl : i = W := by omega
            have hle : ¬ x0 + (i : Int) ≤ x1 := by omega
            clear HR hiW
            by_cases hlast : k + 1 < H
            · have HE2 : Hid (mrL D (k + 1) = (mrL D k ++ rowL D Y i) ++ [47]) := Lib.hid (by rw [HM.out, hY, if_pos hlast])
              have hgt : Y > y0 := by omega
              clear HM
              generalize hZ : mrL D k ++ rowL D Y i = Z at *
              go_wp2_with (at_builtin; refine wpList_append_own _ rfl _ _ 91 rfl (w2.heap.size + 1 + 1) 5 i0 (.int .u8 0) 1 1 Try.underlying91 hi hz0 hz1 hz2 rfl (by decide) _ _ _ rfl (hown.alloc _) ⟨wr.heap.size, 0, none⟩ 1 1 [.int .u8 47] rfl rfl (cell_one_new _ _ _) (by intro u hu; simp at hu; subst hu; rfl) (by unfold maxLen; omega) (by omega) (by simp; omega) ?_; intro v' w4 hown4 hgrow4 _)
              have hB : Below (w2.heap.size + 1 + 1) wr w4 := ((Below.refl _ wr).alloc (by omega) _).grown hgrow4 (by simp; omega) (fun j hj => own_block_ge hown j hj)
              go_roundw
              case rel =>
                refine ⟨k + 1, v', by omega, by rw [← hY]; go_num, rfl, ?_, HA0.out.belowB hB (by omega), HA1.out.belowB hB (by omega), hbw.trans (hB.mono (by omega))⟩
                rw [HE2.out, List.length_append, u8C_snoc]
                exact hown4
              case measure => simp [intOf]; omega
            · have HE2 : Hid (mrL D (k + 1) = mrL D k ++ rowL D Y i) := Lib.hid (by rw [HM.out, hY, if_neg hlast, List.append_nil])
              have hgt : ¬ Y > y0 := by omega
              clear HM
              generalize hZ : mrL D k ++ rowL D Y i = Z at *
              go_wp2_with fail
              go_roundw
              case rel =>
                exact ⟨k + 1, _, by omega, by rw [← hY]; go_num, rfl, by rw [HE2.out]; exact hown, HA0.out, HA1.out, hbw⟩
              case measure => simp [intOf]; omega
      · obtain rfl : k = H := by omega
        have hq6 : y0 + (k : Int) = y1 + 1 := by have := HQ6.out; omega
        have hge : ¬ y0 ≤ y1 - (k : Int) := by omega
        obtain ⟨c0, c1⟩ := id ha0
        have hne : (mrL D k).length ≠ 0 := by have := LPOS k q8.1; omega
        obtain ⟨g, cap, rfl, hg, hl, hm⟩ := own_row8 hown hne
        have hcv := conv_row hown rfl
        clear HM HR hown hm
        go_wp2
        go_ret
        exact ⟨by rw [K.out]; rfl, hbw⟩

end Go.Proofs.Ytggpmailkkpdaaa
