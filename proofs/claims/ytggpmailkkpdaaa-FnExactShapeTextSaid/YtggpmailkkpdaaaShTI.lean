/-
  ShapeText of the program. Conditions: each theorem's own.
-/
import Derived.Test.YtggpmailkkpdaaaShT
import Derived.Test.YtggpmailkkpdaaaPSet
import Derived.Test.YtggpmailkkpdaaaShelfJ
import Derived.Maps.AppendAt
import Derived.Laws.OwnMore
import Derived.Laws.IdiomStrings
namespace Go.Proofs.Ytggpmailkkpdaaa
open Go.RowKit

theorem info_str : (Try.prog.info? 9).map (fun i => (i.zero, i.size, i.bytes)) = some (some (.string ⟨#[]⟩), 1, 16) := by kernel_rfl
/-- The first rows, as texts. -/
def rwsB (D : Cols) (k : Nat) : List ByteArray := (rwsL D k).map fun l => ⟨l.toArray⟩
theorem rwsB_len (D : Cols) (k : Nat) : (rwsB D k).length = k := by simp [rwsB, rwsL_len]
theorem rwsB_snoc (D : Cols) (k : Nat) : rwsB D (k + 1) = rwsB D k ++ [⟨(rowL D (bY1 D - (k : Int)) (wdQ D)).toArray⟩] := by simp [rwsB, rwsL]
theorem rwsB_data (D : Cols) (k : Nat) : (rwsB D k).map (·.data.toList) = rwsL D k := by
  unfold rwsB
  rw [List.map_map]
  simp [Function.comp_def]
def strC (l : List ByteArray) : List Value := l.map Value.string
theorem strC_snoc (l : List ByteArray) (b : ByteArray) : strC (l ++ [b]) = strC l ++ [.string b] := by simp [strC]
theorem own_rowS {w : World} {base n : Nat} {v : Value} {xs : List Value} (h : w.ownsRow base 9 1 v n xs) (hn : n ≠ 0) : ∃ g cap, v = .slice (some ⟨g, 0, none⟩) n cap ∧ g < w.heap.size ∧ n ≤ cap := by
  rcases h.2 with ⟨_, h2⟩ | ⟨g, cap, cur, rfl, hb, hg, hl, hm, -⟩
  · exact absurd h2 hn
  · exact ⟨g, cap, rfl, (Array.getElem?_eq_some_iff.1 hg).1, hl⟩
theorem row_nil {w : World} {base size : Nat} {e : TypeId} : w.ownsRow base e size (.slice none 0 0) 0 [] := ⟨by simp, .inl ⟨rfl, rfl⟩⟩
theorem near_of {x y : Int} (hx : -60 ≤ x ∧ x ≤ 60) (hy : -60 ≤ y ∧ y ≤ 60) : Near x y := near_ptB (ptB_iff.2 ⟨hx, hy⟩)

set_option maxRecDepth 100000 in
set_option maxHeartbeats 4000000 in
set_option linter.unusedSimpArgs false in
theorem implShT_any (v : Value) (D : Cols) (w : World) (hv : Qs w v D) :
    Calls Try.prog 22 #[v] w fun e w' => e = .returned (.string (shT D)) ∧ Below w.heap.size w w' := by
  cases hb : shB D
  · have K := shT_no hb
    have L := implValidShape_any v D w hv
    rw [hb] at L
    go_enter Try.func22, Try.ntmps22
    go_wp2_with fail
    refine L.mono ?_
    rintro e w1 ⟨rfl, hb1⟩
    go_wp2
    go_ret
    exact ⟨by rw [K]; rfl, hb1⟩
  · have L := implValidShape_any v D w hv
    rw [hb] at L
    have HF := Lib.hid (shB_iff.1 hb)
    have HV := Lib.hid hv
    have hn1 := HF.out.pos
    have hn2 := HF.out.len
    obtain ⟨q1, q2, q3, q4, q5, q6, q7, q8⟩ := HF.out.bnd
    have K : shT D = ⟨(Lib.join (rwsL D (htQ D)) [47]).toArray⟩ := by rw [shT_yes hb, mrL_join D q8.1]
    have LJ : (Lib.join (rwsL D (htQ D)) [47]).length ≤ 20000 := by
      rw [← mrL_join D q8.1]
      have := mrL_len D q7.2 (htQ D)
      have : htQ D * 122 ≤ 121 * 122 := Nat.mul_le_mul_right _ q8.2
      omega
    have e1 : (mnF (fun i => D.c i 0) (D.n - 1)) = bX0 D := rfl
    have e2 : (mnF (fun i => D.c i 1) (D.n - 1)) = bY0 D := rfl
    have e3 : (mxF (fun i => D.c i 0) (D.n - 1)) = bX1 D := rfl
    have e4 : (mxF (fun i => D.c i 1) (D.n - 1)) = bY1 D := rfl
    have LB := fun w h => pointBounds_any v D w h hn1
    unfold bndV at LB
    rw [e1, e2, e3, e4] at LB
    have HQ5 := Lib.hid q5
    have HQ6 := Lib.hid q6
    have HN : Hid (∀ x y, bX0 D ≤ x → x ≤ bX1 D → bY0 D ≤ y → y ≤ bY1 D → Near x y) := Lib.hid fun x y h1 h2 h3 h4 => near_of (by omega) (by omega)
    have hM := rwsB_snoc D
    have hR : ∀ y i, rowL D y (i + 1) = rowL D y i ++ [mkQ D (bX0 D + (i : Int)) y] := fun y i => rfl
    generalize hX1 : bX1 D = x1 at *
    generalize hY1 : bY1 D = y1 at *
    generalize hY0 : bY0 D = y0 at *
    generalize hX0 : bX0 D = x0 at *
    generalize hW : wdQ D = W at *
    generalize hH : htQ D = H at *
    have HM := Lib.hid hM
    have HR := Lib.hid hR
    have HK := Lib.hid K
    clear hM hR e1 e2 e3 e4 hb hv hX0 hX1 hY0 hY1 hW hH q5 q6 K
    obtain ⟨i0, hi, hz0, hz1, hz2⟩ := info_parts info_u8
    obtain ⟨j0, hj, hy0, hy1, hy2⟩ := info_parts info_str
    go_enter Try.func22, Try.ntmps22
    go_wp2_with fail
    refine L.mono ?_
    rintro e w1 ⟨rfl, hb1⟩
    have sz1 := hb1.size
    go_wp2_with fail
    refine (LB w1 (HV.out.below hb1)).mono ?_
    rintro e w2 ⟨rfl, hb2⟩
    have hb02 : Below w.heap.size w w2 := by (repeat (first | exact Below.refl _ _ | refine Below.setCell ?_ (by first | (simp; done) | (simp; omega) | omega) _ | refine belowN ?_ _ | refine Below.drew ?_ | refine Below.alloc ?_ (by first | (simp; done) | (simp; omega) | omega) _ | refine Below.trans ?_ (Below.mono (by assumption) (by first | (simp; done) | (simp; omega) | omega))))
    have sz2 := hb2.size
    clear L LB hb1 hb2
    go_wp2_with fail
    refine (pointSet_any _ D _ (HV.out.below (by (repeat (first | exact Below.refl _ _ | refine Below.setCell ?_ (by first | (simp; done) | (simp; omega) | omega) _ | refine belowN ?_ _ | refine Below.drew ?_ | refine Below.alloc ?_ (by first | (simp; done) | (simp; omega) | omega) _ | refine Below.trans ?_ (Below.mono (by assumption) (by first | (simp; done) | (simp; omega) | omega)))))) HF.out).mono ?_
    rintro e w3 ⟨⟨mb, rfl, hmb, hmap⟩, hb3⟩
    have hb03 : Below w.heap.size w w3 := by (repeat (first | exact Below.refl _ _ | refine Below.setCell ?_ (by first | (simp; done) | (simp; omega) | omega) _ | refine belowN ?_ _ | refine Below.drew ?_ | refine Below.alloc ?_ (by first | (simp; done) | (simp; omega) | omega) _ | refine Below.trans ?_ (Below.mono (by assumption) (by first | (simp; done) | (simp; omega) | omega))))
    have HMp := Lib.hid hmap
    have A0 := Lib.hid (((At.new w2 (.int .i64 x0) (.int .i64 y0) 88).below (show Below (w2.alloc (.cells #[.int .i64 x0, .int .i64 y0] 88)).heap.size (w2.alloc (.cells #[.int .i64 x0, .int .i64 y0] 88)) ((w2.alloc (.cells #[.int .i64 x0, .int .i64 y0] 88)).alloc (.cells #[.int .i64 x1, .int .i64 y1] 88)) by (repeat (first | exact Below.refl _ _ | refine Below.setCell ?_ (by first | (simp; done) | (simp; omega) | omega) _ | refine belowN ?_ _ | refine Below.drew ?_ | refine Below.alloc ?_ (by first | (simp; done) | (simp; omega) | omega) _ | refine Below.trans ?_ (Below.mono (by assumption) (by first | (simp; done) | (simp; omega) | omega)))))).below hb3)
    have A1 := Lib.hid ((At.new (w2.alloc (.cells #[.int .i64 x0, .int .i64 y0] 88)) (.int .i64 x1) (.int .i64 y1) 88).below hb3)
    simp only [World.size_alloc] at A1
    have lm : mb < w3.heap.size := World.ownsMap.lt hmap
    clear hb3 hmap hb02
    have s3 : w2.heap.size + 1 < w3.heap.size := A1.out.lt
    obtain ⟨c0, c1⟩ := A0.out
    obtain ⟨d0, d1⟩ := A1.out
    go_wp2_with fail
    clear c0 c1 d0 d1
    go_loopw [6, 7] (fun out y wo => ∃ (k : Nat) (u : Value), k ≤ H ∧ y = .int .i64 (y1 - (k : Int)) ∧ u = out ∧ wo.ownsRow w3.heap.size 9 1 u k (strC (rwsB D k)) ∧ Below w3.heap.size w3 wo) (fun _ y _ => (intOf y - y0 + 1).toNat)
    case atStart => exact ⟨0, .slice none 0 0, by omega, by simp, rfl, World.ownsRow_nil _ _ _ _, Below.refl _ _⟩
    case round =>
      obtain ⟨k, u, hk, rfl, rfl, hrow, hbo⟩ := hrel
      have so := hbo.size
      have B0 : Below w.heap.size w wr := hb03.trans (hbo.mono hb03.size)
      have hl0 : w2.heap.size + 1 < wr.heap.size := by omega
      by_cases hkH : k < H
      · have hq6 : y0 + (H : Int) = y1 + 1 := by have := HQ6.out; omega
        have hq5 : x0 + (W : Int) = x1 + 1 := by have := HQ5.out; omega
        have hge : y0 ≤ y1 - (k : Int) := by omega
        have hgeY : y1 - ((k + 1 : Nat) : Int) = y1 - (k : Int) - 1 := by omega
        have HA0 := Lib.hid (A0.out.below hbo)
        have HA1 := Lib.hid (A1.out.below hbo)
        have HMo := Lib.hid (HMp.out.below hbo)
        have HMK := Lib.hid (HM.out k)
        obtain ⟨c0, c1⟩ := HA0.out
        obtain ⟨d0, d1⟩ := HA1.out
        have HROW := Lib.hid hrow
        have HBO := Lib.hid hbo
        clear hrow hbo
        have hyr : y0 ≤ y1 - (k : Int) ∧ y1 - (k : Int) ≤ y1 := by omega
        generalize hY : y1 - (k : Int) = Y at *
        go_wp2_with fail
        generalize hwo : wr = wo at *
        clear c0 c1 d0 d1
        go_loopw [8, 9] (fun out x wq => ∃ (i : Nat) (u : Value), i ≤ W ∧ x = .int .i64 (x0 + (i : Int)) ∧ u = out ∧ wq.ownsRow wo.heap.size 5 1 u i (u8C (rowL D Y i)) ∧ Below wo.heap.size wo wq) (fun _ x _ => (x1 - intOf x + 1).toNat)
        case atStart => exact ⟨0, .slice none 0 0, by omega, by simp, rfl, World.ownsRow_nil _ _ _ _, Below.refl _ _⟩
        case round =>
          obtain ⟨i, u, hi', rfl, rfl, hown, hbw⟩ := hrel
          have sw := hbw.size
          have HQ := Lib.hid (HMo.out.below hbw)
          obtain ⟨c0, c1⟩ := HA0.out.below hbw
          obtain ⟨d0, d1⟩ := HA1.out.below hbw
          have ll := rowL_len D Y i
          by_cases hiW : i < W
          · have hle : x0 + (i : Int) ≤ x1 := by omega
            have hnear := HN.out (x0 + (i : Int)) Y (by omega) hle hyr.1 hyr.2
            have HE : Hid (∀ m, mkQ D (x0 + (i : Int)) Y = m → rowL D Y (i + 1) = rowL D Y i ++ [m]) := Lib.hid fun m hm => by rw [HR.out, hm]
            generalize hX : x0 + (i : Int) = X at *
            have hgen : x0 + ((i + 1 : Nat) : Int) = X + 1 := by omega
            cases hh : hasQ D X Y
            · have HE2 : Hid (rowL D Y (i + 1) = rowL D Y i ++ [46]) := Lib.hid (HE.out 46 (by unfold mkQ; rw [hh]; rfl))
              clear HE
              go_wp2_with (first
                | (at_lookup; refine wpList_lookup_q _ rfl _ _ rfl mb D HF.out rfl HQ.out _ _ hnear rfl ?_; rw [hh])
                | (at_builtin; refine wpList_append_own _ rfl _ _ 91 rfl wo.heap.size 5 i0 (.int .u8 0) 1 1 Try.underlying91 hi hz0 hz1 hz2 rfl (by decide) _ _ _ rfl (hown.alloc _) ⟨wr.heap.size, 0, none⟩ 1 1 [.int .u8 46] rfl rfl (cell_one_new _ _ _) (by intro u hu; simp at hu; subst hu; rfl) (by unfold maxLen; omega) (by omega) (by simp; omega) ?_; intro v' w4 hown4 hgrow4 _))
              have hB : Below wo.heap.size wo w4 := ((hbw.alloc sw _).grown hgrow4 (by simp; omega) (fun j hj => own_block_ge hown j hj))
              go_roundw
              case rel =>
                refine ⟨i + 1, v', by omega, by rw [hgen], rfl, ?_, hB⟩
                rw [HE2.out, u8C_snoc]
                exact hown4
              case measure => simp [intOf]; omega
            · have HE2 : Hid (rowL D Y (i + 1) = rowL D Y i ++ [35]) := Lib.hid (HE.out 35 (by unfold mkQ; rw [hh]; rfl))
              clear HE
              go_wp2_with (first
                | (at_lookup; refine wpList_lookup_q _ rfl _ _ rfl mb D HF.out rfl HQ.out _ _ hnear rfl ?_; rw [hh])
                | (at_builtin; refine wpList_append_own _ rfl _ _ 91 rfl wo.heap.size 5 i0 (.int .u8 0) 1 1 Try.underlying91 hi hz0 hz1 hz2 rfl (by decide) _ _ _ rfl (hown.alloc _) ⟨wr.heap.size, 0, none⟩ 1 1 [.int .u8 35] rfl rfl (cell_one_new _ _ _) (by intro u hu; simp at hu; subst hu; rfl) (by unfold maxLen; omega) (by omega) (by simp; omega) ?_; intro v' w4 hown4 hgrow4 _))
              have hB : Below wo.heap.size wo w4 := ((hbw.alloc sw _).grown hgrow4 (by simp; omega) (fun j hj => own_block_ge hown j hj))
              go_roundw
              case rel =>
                refine ⟨i + 1, v', by omega, by rw [hgen], rfl, ?_, hB⟩
                rw [HE2.out, u8C_snoc]
                exact hown4
              case measure => simp [intOf]; omega
          · obtain rfl : i = W := by omega
            have hle : ¬ x0 + (i : Int) ≤ x1 := by omega
            obtain ⟨g, cap, rfl, hg, hl, hm⟩ := own_row8 hown (by omega)
            have hcv := conv_row hown ll
            have R1 := Lib.hid (ownsRow_keep HROW.out hbw)
            have HBW := Lib.hid hbw
            clear hown hm hbw
            go_wp2_with (at_builtin; refine wpList_append_own _ rfl _ _ 50 rfl w3.heap.size 9 j0 (.string ⟨#[]⟩) 1 16 Try.underlying50 hj hy0 hy1 hy2 rfl (by decide) _ _ _ rfl (R1.out.alloc _) ⟨wr.heap.size, 0, none⟩ 1 1 [.string ⟨(rowL D Y i).toArray⟩] rfl rfl (cell_one_new _ _ _) (by intro u hu; simp at hu; subst hu; rfl) (by unfold maxLen; omega) (by omega) (by simp; omega) ?_; intro v' w4 hown4 hgrow4 _)
            have hB : Below w3.heap.size w3 w4 := ((HBO.out.trans (HBW.out.mono so)).alloc (by omega) _).grown hgrow4 (by simp; omega) (fun j hj => own_block_ge R1.out j hj)
            go_roundw
            case rel =>
              refine ⟨k + 1, v', by omega, by rw [hgeY], rfl, ?_, hB⟩
              rw [HMK.out, strC_snoc]
              exact hown4
            case measure => simp [intOf]; omega
      · obtain rfl : k = H := by omega
        have hq6 : y0 + (k : Int) = y1 + 1 := by have := HQ6.out; omega
        have hge : ¬ y0 ≤ y1 - (k : Int) := by omega
        obtain ⟨g, cap, rfl, hg, hl⟩ := own_rowS hrow (by omega)
        have HJ := Try.strings_Join g 0 cap (rwsB D k) ⟨#[47]⟩ wr (fun j x hx => by
          have h1 := hrow.cellAt j (by have := (List.getElem?_eq_some_iff.1 hx).1; rw [rwsB_len] at this; omega)
          rw [Nat.zero_add, h1, strC, List.getElem?_map, hx]
          rfl) hg (by rw [rwsB_len]; omega) (by rw [rwsB_len]; exact hl) (by rw [rwsB_data]; show (Lib.join _ [47]).length ≤ _; omega)
        rw [rwsB_len, rwsB_data] at HJ
        obtain ⟨c0, c1⟩ := A0.out.below hbo
        clear hrow HM HR
        go_wp2_with fail
        refine HJ.mono ?_
        rintro e w5 ⟨rfl, hb5⟩
        go_wp2
        go_ret
        exact ⟨by rw [HK.out]; rfl, B0.trans (hb5.mono B0.size)⟩

end Go.Proofs.Ytggpmailkkpdaaa
