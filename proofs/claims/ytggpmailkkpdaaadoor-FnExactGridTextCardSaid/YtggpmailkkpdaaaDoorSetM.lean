/-
  The text of a set of tiles, the model's. Conditions: each theorem's own.
-/
import Derived.Test.YtggpmailkkpdaaaDoorTxt
import Derived.Test.YtggpmailkkpdaaaDoorSOk
import Derived.Laws.OwnMore
import Derived.Laws.IdiomStrings
namespace Go.Proofs.YtggpmailkkpdaaaDoor
open Go.RowKit

theorem bC_app (l m : List UInt8) : Lib.byteCells (l ++ m) = Lib.byteCells l ++ Lib.byteCells m := by simp [Lib.byteCells]
theorem app_len {a b : ByteArray} : (a ++ b).size = a.size + b.size := by simp
theorem conv_bytes {w : World} {base g n cap : Nat} {l : List UInt8} (h : w.ownsRow base 5 1 (.slice (some ⟨g, 0, none⟩) n cap) n (Lib.byteCells l)) (hl : l.length = n) :
    (convert 63 9 (.slice (some ⟨g, 0, none⟩) n cap)).run Tryd.prog w = .ok (.string ⟨l.toArray⟩) w := by
  subst hl
  refine run_convert_bytes_back _ 63 9 5 ⟨g, 0, none⟩ cap l Tryd.underlying63 Tryd.underlying5 Tryd.underlying9 ?_
  intro j hj
  have h1 := h.cellAt j (by omega)
  simp only [Lib.byteCells, List.getElem?_map, List.getElem?_eq_getElem hj, Option.map_some] at h1
  have e : (⟨g, 0, none⟩ : Addr).add j = ⟨g, j, none⟩ := by simp [Addr.add]; omega
  rw [e]
  simpa using h1
theorem tLs_pos (S : Set_) (h : 1 ≤ S.ts.length) : 1 ≤ (tLs S S.ts.length).length := by
  obtain ⟨k, hk⟩ : ∃ k, S.ts.length = k + 1 := ⟨S.ts.length - 1, by omega⟩
  rw [hk, tLs, tLine]
  simp only [List.length_append, List.length_cons, List.length_nil]
  omega
theorem own_row8 {w : World} {base n : Nat} {v : Value} {xs : List Value} (h : w.ownsRow base 5 1 v n xs) (hn : n ≠ 0) : ∃ g cap, v = .slice (some ⟨g, 0, none⟩) n cap ∧ base ≤ g ∧ n ≤ cap ∧ cap ≤ maxLen := by
  rcases h.2 with ⟨_, h2⟩ | ⟨g, cap, cur, rfl, hb, -, hl, hm, -⟩
  · exact absurd h2 hn
  · exact ⟨g, cap, rfl, hb, hl, hm⟩
theorem At.belowB {B : Nat} {w w1 : World} {p : Nat} {x y : Value} (h : At w p x y) (hb : Below B w w1) (hp : p < B) : At w1 p x y :=
  ⟨(hb.cell (p := ⟨p, 0, none⟩) hp).trans h.c0, (hb.cell (p := ⟨p, 1, none⟩) hp).trans h.c1⟩

set_option maxRecDepth 100000 in
set_option maxHeartbeats 4000000 in
set_option linter.unusedSimpArgs false in
theorem l05Set_any (p : Nat) (vg vt : Value) (S : Set_) (w : World) (hp : At w p vg vt) (hS : SetIn w vg vt S) (V : Valid S) :
    Calls Tryd.prog 31 #[.pointer (some ⟨p, 0, none⟩)] w fun e w' => e = .returned (.string ⟨(gLs S.gs S.gs.length ++ tLs S S.ts.length).toArray⟩) ∧ Below w.heap.size w w' := by
  have HS := Lib.hid hS
  have HP := Lib.hid hp
  have HV := Lib.hid V
  have hgl := V.g.len
  have htl := V.t.len
  have ht1 := V.t.one
  have hpl := hp.lt
  obtain ⟨ao, gcap, rfl, hgl2, hgm, -⟩ := hS.g
  obtain ⟨tb, toff, tcap, rfl, htl2, htm, -⟩ := tiles_open hS.t (by omega)
  unfold maxLen at hgm htm
  obtain ⟨i0, hi, hz0, hz1, hz2⟩ := info_parts info_u8
  clear hS hp V
  go_enter Tryd.func31, Tryd.ntmps31
  go_wp2_with fail
  go_loopw [3, 4] (fun out i wr => ∃ (k : Nat) (u : Value), k ≤ S.gs.length ∧ i = .int .i64 (k : Int) ∧ u = out ∧ wr.ownsRow w.heap.size 5 1 u (gLs S.gs k).length (Lib.byteCells (gLs S.gs k)) ∧ Below w.heap.size w wr) (fun _ i _ => S.gs.length - (intOf i).toNat)
  case atStart => exact ⟨0, _, by omega, by simp, rfl, World.ownsRow_lit (base := w.heap.size) (e := 5) (size := 1) w #[] 0 (Nat.le_refl _) (Nat.zero_le _) rfl, by (repeat (first | exact Below.refl _ _ | refine Below.setCell ?_ (by first | (simp; done) | (simp; omega) | omega) _ | refine belowN ?_ _ | refine Below.drew ?_ | refine Below.alloc ?_ (by first | (simp; done) | (simp; omega) | omega) _ | refine Below.trans ?_ (Below.mono (by assumption) (by first | (simp; done) | (simp; omega) | omega))))⟩
  case round =>
    obtain ⟨k, u, hk, rfl, rfl, hown, hbw⟩ := hrel
    have sw := hbw.size
    obtain ⟨k0, k1⟩ := HP.out.below hbw
    by_cases hlt : k < S.gs.length
    · obtain ⟨b, off, cap, hvv, -, -, hc⟩ := glues_open HS.out.g (by omega)
      simp at hvv
      obtain ⟨rfl, -⟩ := hvv
      obtain ⟨c0, c1⟩ := hc k hlt
      have HC0 := Lib.hid c0
      have HC1 := Lib.hid c1
      have c0 := cell_below hbw c0
      have c1 := cell_below hbw c1
      have gok := HV.out.g.all k hlt
      have hns := nm_size gok.1
      have hstr := gok.2.1
      have hlen := gLs_len HV.out.g.all hk
      have hil := Lib.itoa_length_le (gS S.gs k) (by omega) (by omega)
      have HL : Hid (gLs S.gs (k + 1) = gLs S.gs k ++ ((((⟨#[103, 108, 117, 101, 32]⟩ : ByteArray) ++ gN S.gs k) ++ ⟨#[32]⟩ ++ ⟨(Lib.itoa (gS S.gs k)).toArray⟩) ++ ⟨#[10]⟩).data.toList) := Lib.hid (by simp [gLs, gLine, ByteArray.data_append])
      have hD20 : (⟨(Lib.itoa (gS S.gs k)).toArray⟩ : ByteArray).size ≤ 30 := by rw [Lib.size_eq]; show (Lib.itoa (gS S.gs k)).length ≤ 30; omega
      have SD := fun w => specDecimal_any (gS S.gs k) w (by omega) (by omega)
      generalize hG : gS S.gs k = G at *
      generalize hN : gN S.gs k = NM at *
      generalize hDD : (⟨(Lib.itoa G).toArray⟩ : ByteArray) = DD at *
      have HOWN := Lib.hid hown
      have z5 : (⟨#[103, 108, 117, 101, 32]⟩ : ByteArray).size = 5 := rfl
      have z1 : (⟨#[32]⟩ : ByteArray).size = 1 := rfl
      have z10 : (⟨#[10]⟩ : ByteArray).size = 1 := rfl
      have l1 : ¬ 9223372036854775807 < 5 + NM.size := by omega
      have l2 : ¬ 9223372036854775807 < 5 + NM.size + 1 := by omega
      have l3 : ¬ 9223372036854775807 < 5 + NM.size + 1 + DD.size := by omega
      have l4 : ¬ 9223372036854775807 < 5 + NM.size + 1 + DD.size + 1 := by omega
      clear hc hown gok hG hN hDD hil
      go_wp2_with fail
      go_region_held3 (fun w' => w'.cell? ⟨p, 0, none⟩ = some (.slice (some ⟨b, off, none⟩) S.gs.length gcap) ∧ w'.cell? ⟨b, off + k * 2, none⟩ = some (.string NM) ∧ w'.cell? ⟨b, off + k * 2 + 1, none⟩ = some (.int .i64 G)) ((((try go_split_ands); (try dsimp only); (repeat' apply And.intro)) <;> (repeat (first | with_reducible assumption | ((with_reducible refine cnew0 ?_); simp; done) | ((with_reducible refine cnew1 ?_); simp; done) | (with_reducible refine akeep ?_) | (with_reducible refine dkeep ?_) | ((with_reducible refine skeep ?_ ?_); rotate_left; (first | ((try dsimp only); omega) | (simp; done) | (simp; omega))) | (with_reducible refine bkeep hb3 ?_)))))
        (first
          | (go_at_call 52; refine (SD _).mono ?_; rintro e w3 ⟨rfl, hb3⟩; have C3 := Lib.hid (show Below wr.heap.size wr w3 by (repeat (first | exact Below.refl _ _ | refine Below.setCell ?_ (by first | (simp; done) | (simp; omega) | omega) _ | refine belowN ?_ _ | refine Below.drew ?_ | refine Below.alloc ?_ (by first | (simp; done) | (simp; omega) | omega) _ | refine Below.trans ?_ (Below.mono (by assumption) (by first | (simp; done) | (simp; omega) | omega))))); have s3 := C3.out.size; have O3 := Lib.hid (ownsRow_keep HOWN.out C3.out))
          | (refine step_append_str _ rfl _ _ 63 9 rfl w.heap.size 5 i0 Tryd.underlying63 Tryd.underlying9 hi hz0 hz1 hz2 _ _ _ rfl O3.out _ rfl (by unfold maxLen; simp; omega) (by simp; omega) (by first | omega | (show w.heap.size ≤ w3.heap.size; omega)) ?_; intro v' w4 hown4 hgrow4; have B4 := Lib.hid (show Below w.heap.size w w4 from (hbw.trans (C3.out.mono sw)).grown hgrow4 (by first | omega | (show w.heap.size ≤ w3.heap.size; omega)) (fun j hj => own_block_ge O3.out j hj)); obtain ⟨y0, y1⟩ := HP.out.below B4.out; have e0 := cell_below B4.out HC0.out; have e1 := cell_below B4.out HC1.out))
      clear y0 y1 e0 e1
      go_wp2
      go_roundw
      case rel =>
        refine ⟨k + 1, v', by omega, by go_num, rfl, ?_, B4.out⟩
        rw [HL.out, List.length_append, bC_app, ← Lib.strCells_eq, ← Lib.size_eq]
        exact hown4
      case measure => simp [intOf]; omega
    · obtain rfl : k = S.gs.length := by omega
      have hgll := gLs_len HV.out.g.all hk
      generalize hGL : gLs S.gs S.gs.length = GL at *
      go_wp2_with fail
      clear k0 k1 sw hlt
      go_loopw [3, 5] (fun out i wr => ∃ (k : Nat) (u : Value), k ≤ S.ts.length ∧ i = .int .i64 (k : Int) ∧ u = out ∧ wr.ownsRow w.heap.size 5 1 u (GL ++ tLs S k).length (Lib.byteCells (GL ++ tLs S k)) ∧ Below w.heap.size w wr) (fun _ i _ => S.ts.length - (intOf i).toNat)
      case atStart => exact ⟨0, _, by omega, by simp, rfl, by simpa [tLs] using hown, hbw⟩
      case round =>
        clear hown hbw
        obtain ⟨k, u, hk, rfl, rfl, hown, hbw⟩ := hrel
        have sw := hbw.size
        obtain ⟨k0, k1⟩ := HP.out.below hbw
        have hlen : (GL ++ tLs S k).length ≤ 200 * 60 + 160 * 80 := by have := tLs_len HV.out hk; rw [List.length_append]; omega
        by_cases hlt : k < S.ts.length
        · obtain ⟨b, off, cap, hvv, -, -, hc⟩ := tiles_open HS.out.t (by omega)
          simp at hvv
          obtain ⟨⟨rfl, rfl⟩, rfl⟩ := hvv
          have tok := HV.out.t.all k hlt
          obtain ⟨b2, o2, c, c0, c1, hc4, hcm, hcc⟩ := hc k hlt tok.2.1.1
          have c0 := cell_below hbw c0
          have c1' := cell_below hbw c1
          have hns := nm_size tok.1
          have HT := Lib.hid tok.2.1
          have HC1 := Lib.hid c1
          have HCC := Lib.hid hcc
          unfold maxLen at hcm
          have HL : Hid (GL ++ tLs S (k + 1) = (GL ++ tLs S k ++ ((⟨#[116, 105, 108, 101, 32]⟩ : ByteArray) ++ tN S.ts k).data.toList ++ tSd S.gs (tS S.ts k) 4) ++ [10]) := Lib.hid (by simp [tLs, tLine, ByteArray.data_append])
          generalize hN : tN S.ts k = NM at *
          generalize hLL : GL ++ tLs S k = LL at *
          have l1 : ¬ 9223372036854775807 < 5 + NM.size := by omega
          have z5 : (⟨#[116, 105, 108, 101, 32]⟩ : ByteArray).size = 5 := rfl
          clear hc tok hN c1 hcc
          go_wp2_with (at_builtin; refine Lib.wpList_append_own_string _ rfl _ _ 63 9 rfl w.heap.size 5 i0 Tryd.underlying63 Tryd.underlying9 hi hz0 hz1 hz2 _ _ _ rfl hown _ rfl (by unfold maxLen; simp; omega) (by simp; omega) (by omega) ?_; intro v' w4 hown4 hgrow4 _)
          have B4 : Below w.heap.size w w4 := hbw.grown hgrow4 (by omega) (fun j hj => own_block_ge hown j hj)
          have hown4' : w4.ownsRow w.heap.size 5 1 v' (LL ++ ((⟨#[116, 105, 108, 101, 32]⟩ : ByteArray) ++ NM).data.toList).length (Lib.byteCells (LL ++ ((⟨#[116, 105, 108, 101, 32]⟩ : ByteArray) ++ NM).data.toList)) := by
            rw [List.length_append, bC_app, ← Lib.strCells_eq, ← Lib.size_eq]
            exact hown4
          have hl2 : (LL ++ ((⟨#[116, 105, 108, 101, 32]⟩ : ByteArray) ++ NM).data.toList).length ≤ 200 * 60 + 160 * 80 + 17 := by rw [List.length_append, ← Lib.size_eq, app_len]; show LL.length + (5 + NM.size) ≤ _; omega
          generalize hL2 : LL ++ ((⟨#[116, 105, 108, 101, 32]⟩ : ByteArray) ++ NM).data.toList = L2 at *
          clear hown hgrow4 hown4 hbw c0 c1' k0 k1 sw
          go_loopw [3, 6] (fun out i wr => ∃ (m : Nat) (u : Value), m ≤ 4 ∧ i = .int .i64 (m : Int) ∧ u = out ∧ wr.ownsRow w.heap.size 5 1 u (L2 ++ tSd S.gs (tS S.ts k) m).length (Lib.byteCells (L2 ++ tSd S.gs (tS S.ts k) m)) ∧ Below w.heap.size w wr) (fun _ i _ => 4 - (intOf i).toNat)
          case atStart => exact ⟨0, _, by omega, by simp, rfl, by simpa [tSd] using hown4', B4⟩
          case round =>
            clear hown4' B4
            obtain ⟨m, u, hm, rfl, rfl, hown, hbw⟩ := hrel
            have sw := hbw.size
            obtain ⟨k0, k1⟩ := HP.out.below hbw
            have hl3 : (L2 ++ tSd S.gs (tS S.ts k) m).length ≤ 200 * 60 + 160 * 80 + 17 + 52 := by have := tSd_len HV.out.g.all HT.out hm; rw [List.length_append]; omega
            by_cases hm4 : m < 4
            · have c1 := cell_below hbw HC1.out
              have c2 := cell_below hbw (HCC.out m hm4)
              have hz := HT.out.2 m hm4
              have hgn := gNm_len HV.out.g.all hz.1 hz.2
              have HL2 : Hid (L2 ++ tSd S.gs (tS S.ts k) (m + 1) = (L2 ++ tSd S.gs (tS S.ts k) m) ++ ((⟨#[32]⟩ : ByteArray) ++ gNm S.gs (iAt (tS S.ts k) m)).data.toList) := Lib.hid (by simp [tSd, ByteArray.data_append])
              have GN := fun w h1 h2 => l05GlueName_any p (.slice ao S.gs.length gcap) (.slice (some ⟨tb, toff, none⟩) S.ts.length tcap) S.gs (iAt (tS S.ts k) m) w h1 h2 hz.1 hz.2
              generalize hZ : iAt (tS S.ts k) m = z at *
              generalize hGN : gNm S.gs z = NG at *
              generalize hL3 : L2 ++ tSd S.gs (tS S.ts k) m = L3 at *
              have l1 : ¬ 9223372036854775807 < 1 + NG.size := by omega
              have z1 : (⟨#[32]⟩ : ByteArray).size = 1 := rfl
              clear hGN hZ
              go_wp2_with (first
                | (go_at_call 67; refine (GN _ (HP.out.below hbw) (HS.out.g.below hbw)).mono ?_; rintro e w3 ⟨rfl, hb3⟩; have s3 := hb3.size; have O3 := Lib.hid (ownsRow_keep hown hb3))
                | (at_builtin; refine Lib.wpList_append_own_string _ rfl _ _ 63 9 rfl w.heap.size 5 i0 Tryd.underlying63 Tryd.underlying9 hi hz0 hz1 hz2 _ _ _ rfl O3.out _ rfl (by unfold maxLen; simp; omega) (by simp; omega) (by omega) ?_; intro v' w4 hown4 hgrow4 _))
              have B4 : Below w.heap.size w w4 := (hbw.trans (hb3.mono sw)).grown hgrow4 (by omega) (fun j hj => own_block_ge O3.out j hj)
              go_roundw
              case rel =>
                refine ⟨m + 1, v', by omega, by go_num, rfl, ?_, B4⟩
                rw [HL2.out, List.length_append, bC_app, ← Lib.strCells_eq, ← Lib.size_eq]
                exact hown4
              case measure => simp [intOf]; omega
            · obtain rfl : m = 4 := by omega
              generalize hL3 : L2 ++ tSd S.gs (tS S.ts k) 4 = L3 at *
              go_wp2_with (at_builtin; refine wpList_append_own _ rfl _ _ 63 rfl w.heap.size 5 i0 (.int .u8 0) 1 1 Tryd.underlying63 hi hz0 hz1 hz2 rfl (by decide) _ _ _ rfl (hown.alloc _) ⟨wr.heap.size, 0, none⟩ 1 1 [.int .u8 10] rfl rfl (cell_one_new _ _ _) (by intro u hu; simp at hu; subst hu; rfl) (by unfold maxLen; omega) (by omega) (by simp; omega) ?_; intro v' w4 hown4 hgrow4 _)
              have B4 : Below w.heap.size w w4 := (hbw.alloc sw _).grown hgrow4 (by simp; omega) (fun j hj => own_block_ge hown j hj)
              go_roundw
              case rel =>
                refine ⟨k + 1, v', by omega, by go_num, rfl, ?_, B4⟩
                rw [HL.out, List.length_append, bC_app]
                exact hown4
              case measure => simp [intOf]; omega
        · obtain rfl : k = S.ts.length := by omega
          have hne : (GL ++ tLs S S.ts.length).length ≠ 0 := by
            have := tLs_pos S ht1
            rw [List.length_append]; omega
          obtain ⟨g, cap, rfl, hg, hl, hm⟩ := own_row8 hown hne
          have hcv := conv_bytes hown rfl
          clear hown hm
          generalize hLL : GL ++ tLs S S.ts.length = LL at *
          go_wp2
          go_ret
          subst hLL hGL
          exact ⟨rfl, hbw⟩

theorem specSetText_any (vg vt : Value) (S : Set_) (w : World) (hS : SetIn w vg vt S) (ok : S.ok) (hs : S.small) :
    Calls Tryd.prog 13 #[.agg #[vg, vt]] w fun e w' => e = .returned (.string (stT S)) ∧ Below w.heap.size w w' := by
  have HS := Lib.hid hS
  clear hS
  have A0 := Lib.hid (At.new w vg vt 36)
  cases hb : validB S
  · have K := stT_no hb
    go_enter Tryd.func13, Tryd.ntmps13
    go_wp2_with fail
    refine (l02Ok_any w.heap.size vg vt S _ A0.out (HS.out.below (by (repeat (first | exact Below.refl _ _ | refine Below.setCell ?_ (by first | (simp; done) | (simp; omega) | omega) _ | refine belowN ?_ _ | refine Below.drew ?_ | refine Below.alloc ?_ (by first | (simp; done) | (simp; omega) | omega) _ | refine Below.trans ?_ (Below.mono (by assumption) (by first | (simp; done) | (simp; omega) | omega)))))) ok hs).mono ?_
    rw [hb]
    rintro e w1 ⟨rfl, hb1⟩
    go_wp2
    go_ret
    exact ⟨by rw [K]; rfl, by (repeat (first | exact Below.refl _ _ | refine Below.setCell ?_ (by first | (simp; done) | (simp; omega) | omega) _ | refine belowN ?_ _ | refine Below.drew ?_ | refine Below.alloc ?_ (by first | (simp; done) | (simp; omega) | omega) _ | refine Below.trans ?_ (Below.mono (by assumption) (by first | (simp; done) | (simp; omega) | omega))))⟩
  · have K := Lib.hid (stT_yes hb)
    have V := validB_iff.1 hb
    go_enter Tryd.func13, Tryd.ntmps13
    go_wp2_with fail
    refine (l02Ok_any w.heap.size vg vt S _ A0.out (HS.out.below (by (repeat (first | exact Below.refl _ _ | refine Below.setCell ?_ (by first | (simp; done) | (simp; omega) | omega) _ | refine belowN ?_ _ | refine Below.drew ?_ | refine Below.alloc ?_ (by first | (simp; done) | (simp; omega) | omega) _ | refine Below.trans ?_ (Below.mono (by assumption) (by first | (simp; done) | (simp; omega) | omega)))))) ok hs).mono ?_
    rw [hb]
    rintro e w1 ⟨rfl, hb1⟩
    have B1 : Below w.heap.size w w1 := by (repeat (first | exact Below.refl _ _ | refine Below.setCell ?_ (by first | (simp; done) | (simp; omega) | omega) _ | refine belowN ?_ _ | refine Below.drew ?_ | refine Below.alloc ?_ (by first | (simp; done) | (simp; omega) | omega) _ | refine Below.trans ?_ (Below.mono (by assumption) (by first | (simp; done) | (simp; omega) | omega))))
    have A1 := Lib.hid (A0.out.below hb1)
    clear hb1
    go_wp2_with fail
    refine (l05Set_any w.heap.size vg vt S _ A1.out (HS.out.below B1) V).mono ?_
    rintro e w2 ⟨rfl, hb2⟩
    go_wp2
    go_ret
    exact ⟨by rw [K.out]; rfl, B1.trans (hb2.mono B1.size)⟩

end Go.Proofs.YtggpmailkkpdaaaDoor
