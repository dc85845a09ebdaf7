/-
  The text of a set of tiles, the program's. Conditions: each theorem's own; it reads the library's listed table of powers of ten.
-/
import Derived.Test.YtggpmailkkpdaaaDoorTxt
import Derived.Test.YtggpmailkkpdaaaDoorIOk
import Derived.Laws.OwnMore
namespace Go.Proofs.YtggpmailkkpdaaaDoor
open Go.RowKit

/-- New strings in a row. -/
theorem strs_new (w : World) (xs : List ByteArray) (t : TypeId) : ∀ (j : Nat) x, xs[j]? = some x → (w.alloc (.cells (xs.map Value.string).toArray t)).cell? ⟨w.heap.size, 0 + j, none⟩ = some (.string x) := by
  intro j x hx
  rw [Lib.cell_of_heap (heap_alloc_new w _)]
  simp [hx]
theorem info_str : (Tryd.prog.info? 9).map (fun i => (i.zero, i.size, i.bytes)) = some (some (.string ⟨#[]⟩), 1, 16) := by kernel_rfl
theorem heap_below {W w : World} (hb : Below W.heap.size W w) {c : Nat} {o : Obj} (h : W.heap[c]? = some o) : w.heap[c]? = some o := (hb.block c (Array.getElem?_eq_some_iff.1 h).1).trans h

theorem box_at {w : World} {b : Nat} {cs : Array Value} {T : TypeId} {fr : Nat × Nat} (h : w.heap[b]? = some (.cells cs T fr)) (j : Nat) : w.cell? ⟨b, j, none⟩ = cs[j]? := Lib.cell_of_heap h j
set_option maxRecDepth 100000 in
set_option maxHeartbeats 4000000 in
set_option linter.unusedSimpArgs false in
theorem implSetText_any (vg vt : Value) (S : Set_) (w : World) (hS : SetIn w vg vt S) (ok : S.ok) (hs : S.small) (hT : Tab w) :
    Calls Tryd.prog 15 #[.agg #[vg, vt]] w fun e w' => e = .returned (.string (stT S)) ∧ Below w.heap.size w w' := by
  have HS := Lib.hid hS
  have X0 := Lib.hid (Two.new w vg vt 36 rfl)
  cases hb : validB S
  · have K := stT_no hb
    have L := fun w h => implValid_any vg vt S w h ok hs
    rw [hb] at L
    clear hS hT
    obtain ⟨x0, x1, xz0, xz1⟩ := X0.out
    go_enter Tryd.func15, Tryd.ntmps15
    go_wp2_with fail
    refine (L _ (HS.out.below (by (repeat (first | exact Below.refl _ _ | refine Below.setCell ?_ (by first | (simp; done) | (simp; omega) | omega) _ | refine belowN ?_ _ | refine Below.drew ?_ | refine Below.alloc ?_ (by first | (simp; done) | (simp; omega) | omega) _ | refine Below.trans ?_ (Below.mono (by assumption) (by first | (simp; done) | (simp; omega) | omega))))))).mono ?_
    rintro e w1 ⟨rfl, hb1⟩
    go_wp2
    go_ret
    exact ⟨by rw [K]; rfl, by (repeat (first | exact Below.refl _ _ | refine Below.setCell ?_ (by first | (simp; done) | (simp; omega) | omega) _ | refine belowN ?_ _ | refine Below.drew ?_ | refine Below.alloc ?_ (by first | (simp; done) | (simp; omega) | omega) _ | refine Below.trans ?_ (Below.mono (by assumption) (by first | (simp; done) | (simp; omega) | omega))))⟩
  · have K := Lib.hid (stT_yes hb)
    have HV := Lib.hid (validB_iff.1 hb)
    have L := fun w h => implValid_any vg vt S w h ok hs
    rw [hb] at L
    have HT := Lib.hid hT
    have hTl := hT.lt
    have hgl := HV.out.g.len
    have htl := HV.out.t.len
    have ht1 := HV.out.t.one
    obtain ⟨ao, gcap, rfl, hgl2, hgm, -⟩ := hS.g
    obtain ⟨tb, toff, tcap, rfl, htl2, htm, -⟩ := tiles_open hS.t (by omega)
    unfold maxLen at hgm htm
    obtain ⟨j0, hj, hy0, hy1, hy2⟩ := info_parts info_str
    clear hS hT hb
    obtain ⟨x0, x1, xz0, xz1⟩ := X0.out
    go_enter Tryd.func15, Tryd.ntmps15
    go_wp2_with fail
    refine (L _ (HS.out.below (by (repeat (first | exact Below.refl _ _ | refine Below.setCell ?_ (by first | (simp; done) | (simp; omega) | omega) _ | refine belowN ?_ _ | refine Below.drew ?_ | refine Below.alloc ?_ (by first | (simp; done) | (simp; omega) | omega) _ | refine Below.trans ?_ (Below.mono (by assumption) (by first | (simp; done) | (simp; omega) | omega))))))).mono ?_
    rintro e w1 ⟨rfl, hb1⟩
    have B1 : Below w.heap.size w w1 := by (repeat (first | exact Below.refl _ _ | refine Below.setCell ?_ (by first | (simp; done) | (simp; omega) | omega) _ | refine belowN ?_ _ | refine Below.drew ?_ | refine Below.alloc ?_ (by first | (simp; done) | (simp; omega) | omega) _ | refine Below.trans ?_ (Below.mono (by assumption) (by first | (simp; done) | (simp; omega) | omega))))
    have X1 := Lib.hid (X0.out.below hb1)
    have s1 : w.heap.size < w1.heap.size := X1.out.lt
    clear hb1 L x0 x1 xz0 xz1
    obtain ⟨x0, x1, xz0, xz1⟩ := X1.out
    have D0 := Lib.hid (Bld.new w1)
    go_wp2_with fail
    clear x0 x1 xz0 xz1
    go_loopw [17] (fun i wr => ∃ k : Nat, k ≤ S.gs.length ∧ i = .int .i64 (k : Int) ∧ Hid (Bld wr w1.heap.size w1.heap.size (gLs S.gs k)) ∧ Below w1.heap.size w1 wr) (fun i _ => S.gs.length - (intOf i).toNat)
    case atStart => exact ⟨0, by omega, by simp, D0, by (repeat (first | exact Below.refl _ _ | refine Below.setCell ?_ (by first | (simp; done) | (simp; omega) | omega) _ | refine belowN ?_ _ | refine Below.drew ?_ | refine Below.alloc ?_ (by first | (simp; done) | (simp; omega) | omega) _ | refine Below.trans ?_ (Below.mono (by assumption) (by first | (simp; done) | (simp; omega) | omega))))⟩
    case round =>
      obtain ⟨k, hk, rfl, hbd, hbw⟩ := hrel
      have sw := hbw.size
      have lb := hbd.out.lt
      have B2 : Below w.heap.size w wr := B1.trans (hbw.mono B1.size)
      obtain ⟨x0, x1, xz0, xz1⟩ := X1.out.below hbw
      by_cases hlt : k < S.gs.length
      · obtain ⟨b, off, cap, hvv, -, -, hc⟩ := glues_open HS.out.g (by omega)
        simp at hvv
        obtain ⟨rfl, rfl⟩ := hvv
        obtain ⟨c0, c1⟩ := hc k hlt
        have c0 := cell_below B2 c0
        have c1 := cell_below B2 c1
        have gok := HV.out.g.all k hlt
        have hns := nm_size gok.1
        have hstr := gok.2.1
        have hlen := gLs_len HV.out.g.all hk
        have hll := gLine_len HV.out.g.all hlt
        have HLN := Lib.hid (line_glue S.gs k)
        have HL : Hid (gLs S.gs (k + 1) = gLs S.gs k ++ gLine S.gs k) := Lib.hid rfl
        have HJ : Hid ((Lib.join (List.map (fun x : ByteArray => x.data.toList) [⟨#[103, 108, 117, 101]⟩, gN S.gs k, ⟨(Lib.itoa (gS S.gs k)).toArray⟩]) [32]).length ≤ 1048576) := Lib.hid (by
          have h1 := lineOf_size [⟨#[103, 108, 117, 101]⟩, gN S.gs k, ⟨(Lib.itoa (gS S.gs k)).toArray⟩]
          have h2 := congrArg List.length HLN.out
          rw [← Lib.size_eq] at h2
          omega)
        have DI := fun w h => implDecimal_any (gS S.gs k) w h (by omega) (by omega)
        generalize hGL : gLine S.gs k = GL at *
        generalize hG : gS S.gs k = G at *
        generalize hN : gN S.gs k = NM at *
        generalize hDD : (⟨(Lib.itoa G).toArray⟩ : ByteArray) = DD at *
        generalize hPP : gLs S.gs k = PP at *
        have hls : (lineOf [⟨#[103, 108, 117, 101]⟩, NM, DD]).size ≤ 60 := by rw [Lib.size_eq, HLN.out]; exact hll
        have HBX := Lib.hid (show (wr.alloc (.cells #[.string NM, .int .i64 G] 67)).heap[wr.heap.size]? = some (.cells #[.string NM, .int .i64 G] 67 (0, 0)) from heap_alloc_new wr _)
        clear hc gok hGL hG hN hDD hPP
        go_wp2_with fail
        go_region_held3 (fun w' => w'.cell? ⟨wr.heap.size, 0, none⟩ = some (.string NM) ∧ w'.cell? ⟨wr.heap.size, 1, none⟩ = some (.int .i64 G)) ((((try go_split_ands); (try dsimp only); (repeat' apply And.intro)) <;> (repeat (first | with_reducible assumption | ((with_reducible refine cnew0 ?_); simp; done) | ((with_reducible refine cnew1 ?_); simp; done) | (with_reducible refine akeep ?_) | (with_reducible refine dkeep ?_) | ((with_reducible refine skeep ?_ ?_); rotate_left; (first | ((try dsimp only); omega) | (simp; done) | (simp; omega))) | (with_reducible refine bkeep hb3 ?_)))))
          (first
            | (go_at_call 37; refine (DI _ (HT.out.below (B := w.heap.size) (by (repeat (first | exact Below.refl _ _ | refine Below.setCell ?_ (by first | (simp; done) | (simp; omega) | omega) _ | refine belowN ?_ _ | refine Below.drew ?_ | refine Below.alloc ?_ (by first | (simp; done) | (simp; omega) | omega) _ | refine Below.trans ?_ (Below.mono (by assumption) (by first | (simp; done) | (simp; omega) | omega))))) hTl)).mono ?_; rintro e w3 ⟨rfl, hb3⟩; have C3 := Lib.hid (show Below wr.heap.size wr w3 by (repeat (first | exact Below.refl _ _ | refine Below.setCell ?_ (by first | (simp; done) | (simp; omega) | omega) _ | refine belowN ?_ _ | refine Below.drew ?_ | refine Below.alloc ?_ (by first | (simp; done) | (simp; omega) | omega) _ | refine Below.trans ?_ (Below.mono (by assumption) (by first | (simp; done) | (simp; omega) | omega))))); have s3 := C3.out.size; have HB3 := Lib.hid (heap_below (show Below (wr.alloc (.cells #[.string NM, .int .i64 G] 67)).heap.size (wr.alloc (.cells #[.string NM, .int .i64 G] 67)) w3 from ⟨hb3.os, hb3.tape, hb3.output, hb3.size, hb3.block⟩) HBX.out))
            | (go_at_call 36; go_must (refine (textLine_any w3.heap.size 3 3 [⟨#[103, 108, 117, 101]⟩, NM, DD] _ rfl (strs_new w3 _ _) (by simp) (by omega) (by omega) HJ.out).mono ?_); rintro e w4 ⟨rfl, hb4⟩; have C4 := Lib.hid (show Below w3.heap.size w3 w4 by (repeat (first | exact Below.refl _ _ | refine Below.setCell ?_ (by first | (simp; done) | (simp; omega) | omega) _ | refine belowN ?_ _ | refine Below.drew ?_ | refine Below.alloc ?_ (by first | (simp; done) | (simp; omega) | omega) _ | refine Below.trans ?_ (Below.mono (by assumption) (by first | (simp; done) | (simp; omega) | omega))))); have s4 := C4.out.size; have HB4 := Lib.hid (heap_below C4.out HB3.out); have e0 := box_at HB4.out 0; have e1 := box_at HB4.out 1; simp at e0 e1)
            | (go_at_call 35; go_must (refine (writeString_any w1.heap.size w1.heap.size PP _ _ (hbd.out.below (show Below wr.heap.size wr w4 from C3.out.trans (C4.out.mono s3))) (by omega) (by omega)).mono ?_); rintro e w5 ⟨rfl, hbd5, hb5, hr5⟩; have HB5 := Lib.hid (hr5 _ _ _ _ HB4.out (by omega) (by decide)); have f0 := box_at HB5.out 0; have f1 := box_at HB5.out 1; simp at f0 f1))
        go_wp2
        go_roundw
        case rel =>
          refine ⟨k + 1, by omega, by go_num, Lib.hid ?_, (hbw.trans ((C3.out.trans (C4.out.mono s3)).mono sw)).trans hb5⟩
          rw [HL.out, ← HLN.out]
          exact hbd5
        case measure => simp [intOf]; omega
      · obtain rfl : k = S.gs.length := by omega
        have hgll := gLs_len HV.out.g.all hk
        generalize hGL : gLs S.gs S.gs.length = GL at *
        have HGL := Lib.hid hGL
        clear hGL
        go_wp2_with fail
        clear x0 x1 xz0 xz1 sw lb B2 hlt
        go_loopw [33] (fun i wr => ∃ k : Nat, k ≤ S.ts.length ∧ i = .int .i64 (k : Int) ∧ Hid (Bld wr w1.heap.size w1.heap.size (GL ++ tLs S k)) ∧ Below w1.heap.size w1 wr) (fun i _ => S.ts.length - (intOf i).toNat)
        case atStart => exact ⟨0, by omega, by simp, Lib.hid (by simpa [tLs] using hbd.out), hbw⟩
        case round =>
          clear hbd hbw
          obtain ⟨k, hk, rfl, hbd, hbw⟩ := hrel
          have sw := hbw.size
          have lb := hbd.out.lt
          have B2 : Below w.heap.size w wr := B1.trans (hbw.mono B1.size)
          have X2 := Lib.hid (X1.out.below hbw)
          by_cases hlt : k < S.ts.length
          · obtain ⟨b, off, cap, hvv, -, -, hc⟩ := tiles_open HS.out.t (by omega)
            simp at hvv
            obtain ⟨⟨rfl, rfl⟩, rfl⟩ := hvv
            have tok := HV.out.t.all k hlt
            obtain ⟨b2, o2, c, c0, c1, hc4, hcm, hcc⟩ := hc k hlt tok.2.1.1
            have c0 := cell_below B2 c0
            have c1 := cell_below B2 c1
            have HSO := Lib.hid tok.2.1
            have HCC := Lib.hid hcc
            unfold maxLen at hcm
            have hlen : (GL ++ tLs S k).length ≤ 200 * 60 + 160 * 80 := by have := tLs_len HV.out hk; rw [List.length_append]; omega
            have hll := tLine_len HV.out hlt
            have HLN := Lib.hid (line_tile S k)
            have HL : Hid (GL ++ tLs S (k + 1) = GL ++ tLs S k ++ tLine S k) := Lib.hid (by rw [tLs, List.append_assoc])
            have HW := Lib.hid (show ∀ m, m < 4 → (List.range (m + 1)).map (fun q => gNm S.gs (iAt (tS S.ts k) q)) = (List.range m).map (fun q => gNm S.gs (iAt (tS S.ts k) q)) ++ [gNm S.gs (iAt (tS S.ts k) m)] from fun m _ => by rw [List.range_succ, List.map_append]; rfl)
            generalize hTL : tLine S k = TL at *
            generalize hN : tN S.ts k = NM at *
            generalize hPP : GL ++ tLs S k = PP at *
            have HBT := Lib.hid (hbd.out.below (show Below wr.heap.size wr (wr.alloc (.cells #[.string NM, .slice (some ⟨b2, o2, none⟩) 4 c] 76)) by (repeat (first | exact Below.refl _ _ | refine Below.setCell ?_ (by first | (simp; done) | (simp; omega) | omega) _ | refine belowN ?_ _ | refine Below.drew ?_ | refine Below.alloc ?_ (by first | (simp; done) | (simp; omega) | omega) _ | refine Below.trans ?_ (Below.mono (by assumption) (by first | (simp; done) | (simp; omega) | omega))))))
            have X3 := Lib.hid (X2.out.below (show Below wr.heap.size wr (wr.alloc (.cells #[.string NM, .slice (some ⟨b2, o2, none⟩) 4 c] 76)) by (repeat (first | exact Below.refl _ _ | refine Below.setCell ?_ (by first | (simp; done) | (simp; omega) | omega) _ | refine belowN ?_ _ | refine Below.drew ?_ | refine Below.alloc ?_ (by first | (simp; done) | (simp; omega) | omega) _ | refine Below.trans ?_ (Below.mono (by assumption) (by first | (simp; done) | (simp; omega) | omega))))))
            have BW3 : Below w1.heap.size w1 (wr.alloc (.cells #[.string NM, .slice (some ⟨b2, o2, none⟩) 4 c] 76)) := hbw.alloc sw _
            have s3 : (wr.alloc (.cells #[.string NM, .slice (some ⟨b2, o2, none⟩) 4 c] 76)).heap.size = wr.heap.size + 1 := by simp
            obtain ⟨x0, x1, xz0, xz1⟩ := X2.out
            clear hc tok hTL hN hPP hcc
            go_wp2_with fail
            clear x0 x1 xz0 xz1
            have hX0 : (List.range 0).map (fun q => gNm S.gs (iAt (tS S.ts k) q)) = [] := rfl
            generalize hwT : (wr.alloc (.cells #[.string NM, .slice (some ⟨b2, o2, none⟩) 4 c] 76)) = wT at *
            have HWT := Lib.hid hwT
            clear hwT hbd lb
            generalize wr.heap.size + 1 = bs at *
            have R0 := World.ownsRow_lit (base := bs) (e := 9) (size := 1) wT #[.string ⟨#[116, 105, 108, 101]⟩, .string NM] 2 (by omega) (by unfold maxLen; omega) rfl
            rw [s3] at R0
            go_loopw [8, 43] (fun out i wq => ∃ (m : Nat) (u : Value), m ≤ 4 ∧ i = .int .i64 (m : Int) ∧ u = out ∧ wq.ownsRow bs 9 1 u (2 + m) (([⟨#[116, 105, 108, 101]⟩, NM] ++ (List.range m).map (fun q => gNm S.gs (iAt (tS S.ts k) q))).map Value.string) ∧ Below bs wT wq) (fun _ i _ => 4 - (intOf i).toNat)
            case atStart => exact ⟨0, _, by omega, by simp, rfl, by simpa using R0, by (repeat (first | exact Below.refl _ _ | refine Below.setCell ?_ (by first | (simp; done) | (simp; omega) | omega) _ | refine belowN ?_ _ | refine Below.drew ?_ | refine Below.alloc ?_ (by first | (simp; done) | (simp; omega) | omega) _ | refine Below.trans ?_ (Below.mono (by assumption) (by first | (simp; done) | (simp; omega) | omega))))⟩
            case round =>
              clear R0 sw
              obtain ⟨m, u, hm, rfl, rfl, hown, hbq⟩ := hrel
              have sq := hbq.size
              have BQ : Below w.heap.size w wr := (B1.trans (BW3.mono B1.size)).trans (hbq.mono (by have := B1.size; have := BW3.size; omega))
              obtain ⟨x0, x1, xz0, xz1⟩ := X3.out.below (show Below wT.heap.size wT wr by rw [s3]; exact hbq)
              have HOWN := Lib.hid hown
              clear hown
              by_cases hm4 : m < 4
              · have c2 := cell_below BQ (HCC.out m hm4)
                have hz := HSO.out.2 m hm4
                have GN := fun w h => glueText_any (.slice ao S.gs.length gcap) (.slice (some ⟨tb, toff, none⟩) S.ts.length tcap) S.gs (iAt (tS S.ts k) m) w h hz.1 hz.2
                have HWm := Lib.hid (HW.out m hm4)
                generalize hZ : iAt (tS S.ts k) m = z at *
                generalize hGN : gNm S.gs z = NG at *
                clear hGN hZ
                go_wp2_with (first
                  | (go_at_call 38; refine (GN _ (HS.out.g.below BQ)).mono ?_; rintro e w4 ⟨rfl, hb4⟩; have C4 := hb4.size; have O4 := Lib.hid (ownsRow_keep HOWN.out hb4))
                  | (at_builtin; refine wpList_append_own _ rfl _ _ 22 rfl bs 9 j0 (.string ⟨#[]⟩) 1 16 Tryd.underlying22 hj hy0 hy1 hy2 rfl (by decide) _ _ _ rfl (O4.out.alloc _) ⟨w4.heap.size, 0, none⟩ 1 1 [.string NG] rfl rfl (cell_one_new _ _ _) (by intro u hu; simp at hu; subst hu; rfl) (by unfold maxLen; omega) (by omega) (by simp; omega) ?_; intro v' w5 hown5 hgrow5 _))
                have hB : Below bs wT w5 := ((hbq.trans (hb4.mono (by omega))).alloc (by omega) _).grown hgrow5 (by simp; omega) (fun j hj => own_block_ge O4.out j hj)
                go_roundw
                case rel =>
                  refine ⟨m + 1, v', by omega, by go_num, rfl, ?_, hB⟩
                  rw [HWm.out, ← List.append_assoc, List.map_append]
                  exact hown5
                case measure => simp [intOf]; omega
              · obtain rfl : m = 4 := by omega
                have hxl : ([⟨#[116, 105, 108, 101]⟩, NM] ++ (List.range 4).map (fun q => gNm S.gs (iAt (tS S.ts k) q))).length = 6 := by simp
                have HJ : (Lib.join (List.map (fun x : ByteArray => x.data.toList) ([⟨#[116, 105, 108, 101]⟩, NM] ++ (List.range 4).map (fun q => gNm S.gs (iAt (tS S.ts k) q)))) [32]).length ≤ 1048576 := by
                  have h1 := lineOf_size ([⟨#[116, 105, 108, 101]⟩, NM] ++ (List.range 4).map (fun q => gNm S.gs (iAt (tS S.ts k) q)))
                  have h2 := congrArg List.length HLN.out
                  rw [← Lib.size_eq] at h2
                  omega
                have hls : (lineOf ([⟨#[116, 105, 108, 101]⟩, NM] ++ (List.range 4).map (fun q => gNm S.gs (iAt (tS S.ts k) q)))).size ≤ 80 := by rw [Lib.size_eq, HLN.out]; exact hll
                generalize hXS : [⟨#[116, 105, 108, 101]⟩, NM] ++ (List.range 4).map (fun q => gNm S.gs (iAt (tS S.ts k) q)) = XS at *
                obtain ⟨g, cp, cur, hv, hg, hgl2, hcl⟩ : ∃ (g cp : Nat) (_ : Nat), u = .slice (some ⟨g, 0, none⟩) 6 cp ∧ bs ≤ g ∧ g < wr.heap.size ∧ 6 ≤ cp := by
                  rcases HOWN.out.2 with ⟨_, h2⟩ | ⟨g, cap, cur, hv, hb, hg, hl, hm, -⟩
                  · omega
                  · exact ⟨g, cap, 0, hv, hb, (Array.getElem?_eq_some_iff.1 hg).1, hl⟩
                subst hv
                have TX := textLine_any g cp 6 XS wr hxl (fun j x hx => by
                  have h1 := HOWN.out.cellAt j (by have := (List.getElem?_eq_some_iff.1 hx).1; omega)
                  rw [Nat.zero_add, h1, List.getElem?_map, hx]
                  rfl) hgl2 (by omega) hcl HJ
                have HBQ := Lib.hid hbq
                clear hbq hXS
                go_wp2_with fail
                refine TX.mono ?_
                rintro e w4 ⟨rfl, hb4⟩
                have C4 : Below wT.heap.size wT w4 := by rw [s3]; exact HBQ.out.trans (hb4.mono (by omega))
                have s4 := hb4.size
                go_wp2_with fail
                refine (writeString_any w1.heap.size w1.heap.size PP (lineOf XS) w4 (HBT.out.below C4) (by omega) (by have := BW3.size; omega)).mono ?_
                rintro e w5 ⟨rfl, hbd5, hb5, -⟩
                go_wp2
                go_roundw
                case rel =>
                  refine ⟨k + 1, by omega, by go_num, Lib.hid ?_, (BW3.trans (C4.mono BW3.size)).trans hb5⟩
                  rw [HL.out, ← HLN.out]
                  exact hbd5
                case measure => simp [intOf]; omega
          · obtain rfl : k = S.ts.length := by omega
            have ST := Tryd.Builder_String_any w1.heap.size w1.heap.size (GL ++ tLs S S.ts.length) wr hbd.out sw
            go_wp2_with fail
            refine ST.mono ?_
            rintro e w2 ⟨rfl, hb2⟩
            go_wp2
            go_ret
            exact ⟨by rw [K.out]; rfl, B2.trans (hb2.mono B1.size)⟩

end Go.Proofs.YtggpmailkkpdaaaDoor
