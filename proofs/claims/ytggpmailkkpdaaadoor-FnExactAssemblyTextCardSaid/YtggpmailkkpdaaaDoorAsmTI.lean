/-
  The text of an assembly, the program's. Conditions: each theorem's own; it reads the library's listed table of powers of ten.
-/
import Derived.Test.YtggpmailkkpdaaaDoorATxt
import Derived.Test.YtggpmailkkpdaaaDoorSetI
namespace Go.Proofs.YtggpmailkkpdaaaDoor
open Go.RowKit

set_option maxRecDepth 100000 in
set_option maxHeartbeats 4000000 in
set_option linter.unusedSimpArgs false in
theorem implAssemblyText_law (vg1 vt1 : Value) (S1 : Set_) (v2 : Value) (P2 : List Pl) (w : World) (h1 : SetIn w vg1 vt1 S1) (s1 : ∃ a k q, vg1 = .slice (some a) k q) (ok1 : S1.ok) (m1 : S1.small) (h2 : Plcs w v2 P2) (s2 : ∃ a k q, v2 = .slice (some a) k q) (o2 : ∀ p ∈ P2, p.ok) (m2 : P2.length ≤ 1048576) (hT : Tab w) :
    Calls Tryd.prog 20 #[.agg #[vg1, vt1], .agg #[v2]] w fun e w' => e = .returned (.string (atT S1 P2)) ∧ Below w.heap.size w w' := by
  have HS := Lib.hid h1
  have HVP := Lib.hid h2
  have HB := Lib.hid (boxes_sa w vg1 vt1 v2 36 47)
  have L := fun w a b => implValidAssembly_law vg1 vt1 S1 v2 P2 w a s1 ok1 m1 b s2 o2 m2
  cases hb : vaB S1 P2
  · have K := atT_no hb
    rw [hb] at L
    clear h1 h2 hT
    obtain ⟨x0, x1⟩ := HB.out.1
    obtain ⟨q0⟩ := HB.out.2
    go_enter Tryd.func20, Tryd.ntmps20
    go_wp2_with fail
    refine (L _ (HS.out.below (by (repeat (first | exact Below.refl _ _ | refine Below.setCell ?_ (by first | (simp; done) | (simp; omega) | omega) _ | refine belowN ?_ _ | refine Below.drew ?_ | refine Below.alloc ?_ (by first | (simp; done) | (simp; omega) | omega) _ | refine Below.trans ?_ (Below.mono (by assumption) (by first | (simp; done) | (simp; omega) | omega)))))) (HVP.out.below (by (repeat (first | exact Below.refl _ _ | refine Below.setCell ?_ (by first | (simp; done) | (simp; omega) | omega) _ | refine belowN ?_ _ | refine Below.drew ?_ | refine Below.alloc ?_ (by first | (simp; done) | (simp; omega) | omega) _ | refine Below.trans ?_ (Below.mono (by assumption) (by first | (simp; done) | (simp; omega) | omega))))))).mono ?_
    rintro e w1 ⟨rfl, hb1⟩
    go_wp2
    go_ret
    exact ⟨by rw [K]; rfl, by (repeat (first | exact Below.refl _ _ | refine Below.setCell ?_ (by first | (simp; done) | (simp; omega) | omega) _ | refine belowN ?_ _ | refine Below.drew ?_ | refine Below.alloc ?_ (by first | (simp; done) | (simp; omega) | omega) _ | refine Below.trans ?_ (Below.mono (by assumption) (by first | (simp; done) | (simp; omega) | omega))))⟩
  · have K := Lib.hid (atT_yes hb)
    have HV := Lib.hid (vAs_iff.1 hb)
    rw [hb] at L
    have HT := Lib.hid hT
    have hTl := hT.lt
    have htl := HV.out.v.t.len
    have ht1 := HV.out.v.t.one
    have hpl := HV.out.f.len
    obtain ⟨tb, toff, tcap, rfl, htl2, htm, -⟩ := tiles_open h1.t (by omega)
    obtain ⟨ao, cap, rfl, hl, hm, -⟩ := h2.open_
    unfold maxLen at htm hm
    clear h1 h2 hT hb
    obtain ⟨x0, x1⟩ := HB.out.1
    obtain ⟨q0⟩ := HB.out.2
    go_enter Tryd.func20, Tryd.ntmps20
    go_wp2_with fail
    refine (L _ (HS.out.below (by (repeat (first | exact Below.refl _ _ | refine Below.setCell ?_ (by first | (simp; done) | (simp; omega) | omega) _ | refine belowN ?_ _ | refine Below.drew ?_ | refine Below.alloc ?_ (by first | (simp; done) | (simp; omega) | omega) _ | refine Below.trans ?_ (Below.mono (by assumption) (by first | (simp; done) | (simp; omega) | omega)))))) (HVP.out.below (by (repeat (first | exact Below.refl _ _ | refine Below.setCell ?_ (by first | (simp; done) | (simp; omega) | omega) _ | refine belowN ?_ _ | refine Below.drew ?_ | refine Below.alloc ?_ (by first | (simp; done) | (simp; omega) | omega) _ | refine Below.trans ?_ (Below.mono (by assumption) (by first | (simp; done) | (simp; omega) | omega))))))).mono ?_
    rintro e w1 ⟨rfl, hb1⟩
    have B1 : Below w.heap.size w w1 := by (repeat (first | exact Below.refl _ _ | refine Below.setCell ?_ (by first | (simp; done) | (simp; omega) | omega) _ | refine belowN ?_ _ | refine Below.drew ?_ | refine Below.alloc ?_ (by first | (simp; done) | (simp; omega) | omega) _ | refine Below.trans ?_ (Below.mono (by assumption) (by first | (simp; done) | (simp; omega) | omega))))
    have X1 := Lib.hid (HB.out.1.below hb1)
    have Q1 := Lib.hid (HB.out.2.below hb1)
    have l1 : w.heap.size + 1 < w1.heap.size := Q1.out.lt
    clear hb1 L x0 x1 q0
    obtain ⟨x0, x1⟩ := X1.out
    obtain ⟨q0⟩ := Q1.out
    have D0 := Lib.hid (Bld.new w1)
    go_wp2_with fail
    clear x0 x1 q0
    go_loopw [15] (fun i wr => ∃ k : Nat, k ≤ P2.length ∧ i = .int .i64 (k : Int) ∧ Hid (Bld wr w1.heap.size w1.heap.size (aLs S1 P2 k)) ∧ Below w1.heap.size w1 wr) (fun i _ => P2.length - (intOf i).toNat)
    case atStart => exact ⟨0, by omega, by simp, D0, by (repeat (first | exact Below.refl _ _ | refine Below.setCell ?_ (by first | (simp; done) | (simp; omega) | omega) _ | refine belowN ?_ _ | refine Below.drew ?_ | refine Below.alloc ?_ (by first | (simp; done) | (simp; omega) | omega) _ | refine Below.trans ?_ (Below.mono (by assumption) (by first | (simp; done) | (simp; omega) | omega))))⟩
    case round =>
      obtain ⟨k, hk, rfl, hbd, hbw⟩ := hrel
      have sw := hbw.size
      have lb := hbd.out.lt
      have B2 : Below w.heap.size w wr := B1.trans (hbw.mono B1.size)
      by_cases hlt : k < P2.length
      · obtain ⟨x0, x1⟩ := X1.out.below hbw
        obtain ⟨q0⟩ := Q1.out.below hbw
        obtain ⟨ao2, cap2, hvv, -, -, hc⟩ := HVP.out.open_
        simp at hvv
        obtain ⟨b, off, rfl, hcc⟩ := hc (by omega)
        obtain ⟨rfl, rfl⟩ := hvv
        obtain ⟨c0, c1, c2⟩ := hcc k hlt
        have c0 := cell_below B2 c0
        have c1 := cell_below B2 c1
        have c2 := cell_below B2 c2
        have hns := aNm_size HV.out hlt
        have hps : (aPt P2 k).size ≤ 43 := ptText_size _ _
        have htk := HV.out.t k hlt
        have hlen := aLs_len HV.out hk
        have hll := aLine_len HV.out hlt
        have HLN := Lib.hid (line_asm S1 P2 k)
        have HL : Hid (aLs S1 P2 (k + 1) = aLs S1 P2 k ++ aLine S1 P2 k) := Lib.hid rfl
        have HJ : Hid ((Lib.join (List.map (fun x : ByteArray => x.data.toList) [aNm S1 P2 k, aPt P2 k]) [32]).length ≤ 1048576) := Lib.hid (by
          have h1 := lineOf_size [aNm S1 P2 k, aPt P2 k]
          have h2 := congrArg List.length HLN.out
          rw [← Lib.size_eq] at h2
          omega)
        have SP := fun w h => implPointText_any (pX P2 k) (pY P2 k) w h
        obtain ⟨t, ht⟩ : ∃ t : Nat, pT P2 k = (t : Int) := ⟨(pT P2 k).toNat, by omega⟩
        obtain ⟨b3, o3, c3, hvv3, -, -, hc3⟩ := tiles_open HS.out.t (by omega)
        simp at hvv3
        obtain ⟨⟨rfl, rfl⟩, rfl⟩ := hvv3
        obtain ⟨b2, o2', c, d0, -, -, -, -⟩ := hc3 t (by omega) (HV.out.v.sides (by omega))
        have hnm : aNm S1 P2 k = tN S1.ts t := by unfold aNm; rw [ht]; rfl
        rw [← hnm] at d0
        have HD0 := Lib.hid d0
        have d0 := cell_below B2 d0
        have hpt : aPt P2 k = ptText (pX P2 k) (pY P2 k) := rfl
        rw [← hpt] at SP
        rw [ht] at c2
        have htt : t < S1.ts.length := by omega
        generalize hAL : aLine S1 P2 k = AL at *
        generalize hX : pX P2 k = X at *
        generalize hY : pY P2 k = Y at *
        generalize hN : aNm S1 P2 k = NM at *
        generalize hD : aPt P2 k = DD at *
        generalize hPP : aLs S1 P2 k = PP at *
        have hls : (lineOf [NM, DD]).size ≤ 60 := by rw [Lib.size_eq, HLN.out]; exact hll
        have HBX := Lib.hid (show (wr.alloc (.cells #[.int .i64 X, .int .i64 Y, .int .i64 (t : Int)] 89)).heap[wr.heap.size]? = some (.cells #[.int .i64 X, .int .i64 Y, .int .i64 (t : Int)] 89 (0, 0)) from heap_alloc_new wr _)
        clear hc hcc hAL hX hY hN hD hPP hc3 hpt hnm htk ht
        have g0 : (wr.alloc (.cells #[.int .i64 X, .int .i64 Y, .int .i64 (t : Int)] 89)).cell? ⟨wr.heap.size, 0, none⟩ = some (.int .i64 X) := box_at HBX.out 0
        have g1 : (wr.alloc (.cells #[.int .i64 X, .int .i64 Y, .int .i64 (t : Int)] 89)).cell? ⟨wr.heap.size, 1, none⟩ = some (.int .i64 Y) := box_at HBX.out 1
        have g2 : (wr.alloc (.cells #[.int .i64 X, .int .i64 Y, .int .i64 (t : Int)] 89)).cell? ⟨wr.heap.size, 2, none⟩ = some (.int .i64 (t : Int)) := box_at HBX.out 2
        go_wp2_with fail
        go_region_held3 (fun w' => w'.cell? ⟨w.heap.size, 1, none⟩ = some (.slice (some ⟨tb, toff, none⟩) S1.ts.length tcap) ∧ w'.cell? ⟨wr.heap.size, 0, none⟩ = some (.int .i64 X) ∧ w'.cell? ⟨wr.heap.size, 1, none⟩ = some (.int .i64 Y) ∧ w'.cell? ⟨wr.heap.size, 2, none⟩ = some (.int .i64 (t : Int)) ∧ w'.cell? ⟨tb, toff + t * 2, none⟩ = some (.string NM)) ((((try go_split_ands); (try dsimp only); (repeat' apply And.intro)) <;> (repeat (first | with_reducible assumption | ((with_reducible refine cnew0 ?_); simp; done) | ((with_reducible refine cnew1 ?_); simp; done) | (with_reducible refine akeep ?_) | (with_reducible refine dkeep ?_) | ((with_reducible refine skeep ?_ ?_); rotate_left; (first | ((try dsimp only); omega) | (simp; done) | (simp; omega))) | (with_reducible refine bkeep hb3 ?_)))))
          (first
            | (go_at_call 47; refine (SP _ (HT.out.below (B := w.heap.size) (by (repeat (first | exact Below.refl _ _ | refine Below.setCell ?_ (by first | (simp; done) | (simp; omega) | omega) _ | refine belowN ?_ _ | refine Below.drew ?_ | refine Below.alloc ?_ (by first | (simp; done) | (simp; omega) | omega) _ | refine Below.trans ?_ (Below.mono (by assumption) (by first | (simp; done) | (simp; omega) | omega))))) hTl)).mono ?_; rintro e w3 ⟨rfl, hb3⟩; have C3 := Lib.hid (show Below wr.heap.size wr w3 by (repeat (first | exact Below.refl _ _ | refine Below.setCell ?_ (by first | (simp; done) | (simp; omega) | omega) _ | refine belowN ?_ _ | refine Below.drew ?_ | refine Below.alloc ?_ (by first | (simp; done) | (simp; omega) | omega) _ | refine Below.trans ?_ (Below.mono (by assumption) (by first | (simp; done) | (simp; omega) | omega))))); have s3 := C3.out.size; have HB3 := Lib.hid (heap_below (show Below (wr.alloc (.cells #[.int .i64 X, .int .i64 Y, .int .i64 (t : Int)] 89)).heap.size (wr.alloc (.cells #[.int .i64 X, .int .i64 Y, .int .i64 (t : Int)] 89)) w3 from ⟨hb3.os, hb3.tape, hb3.output, hb3.size, hb3.block⟩) HBX.out))
            | (go_at_call 36; go_must (refine (textLine_any w3.heap.size 2 2 [NM, DD] _ rfl (strs_new w3 _ _) (by simp) (by omega) (by omega) HJ.out).mono ?_); rintro e w4 ⟨rfl, hb4⟩; have C4 := Lib.hid (show Below w3.heap.size w3 w4 by (repeat (first | exact Below.refl _ _ | refine Below.setCell ?_ (by first | (simp; done) | (simp; omega) | omega) _ | refine belowN ?_ _ | refine Below.drew ?_ | refine Below.alloc ?_ (by first | (simp; done) | (simp; omega) | omega) _ | refine Below.trans ?_ (Below.mono (by assumption) (by first | (simp; done) | (simp; omega) | omega))))); have s4 := C4.out.size; have HB4 := Lib.hid (heap_below C4.out HB3.out); have e0 := box_at HB4.out 0; have e1 := box_at HB4.out 1; have e2 := box_at HB4.out 2; simp at e0 e1 e2; have BB4 := Lib.hid (show Below w.heap.size w w4 from B2.trans ((C3.out.trans (C4.out.mono s3)).mono B2.size)); have e3 := cell_below BB4.out HD0.out; obtain ⟨y0, y1⟩ := X1.out.below (show Below w1.heap.size w1 w4 from hbw.trans ((C3.out.trans (C4.out.mono s3)).mono sw)))
            | (go_at_call 35; go_must (refine (writeString_any w1.heap.size w1.heap.size PP _ _ (hbd.out.below (show Below wr.heap.size wr w4 from C3.out.trans (C4.out.mono s3))) (by omega) (by omega)).mono ?_); rintro e w5 ⟨rfl, hbd5, hb5, hr5⟩; have HB5 := Lib.hid (hr5 _ _ _ _ HB4.out (by omega) (by decide)); have f0 := box_at HB5.out 0; have f1 := box_at HB5.out 1; have f2 := box_at HB5.out 2; simp at f0 f1 f2; have BB5 := Lib.hid (show Below w.heap.size w w5 from BB4.out.trans (hb5.mono B1.size)); have f3 := cell_below BB5.out HD0.out; obtain ⟨y2, y3⟩ := X1.out.below (show Below w1.heap.size w1 w5 from (hbw.trans ((C3.out.trans (C4.out.mono s3)).mono sw)).trans hb5)))
        go_wp2
        go_roundw
        case rel =>
          refine ⟨k + 1, by omega, by go_num, Lib.hid ?_, (hbw.trans ((C3.out.trans (C4.out.mono s3)).mono sw)).trans hb5⟩
          rw [HL.out, ← HLN.out]
          exact hbd5
        case measure => simp [intOf]; omega
      · obtain rfl : k = P2.length := by omega
        have ST := Tryd.Builder_String_any w1.heap.size w1.heap.size (aLs S1 P2 P2.length) wr hbd.out sw
        go_wp2_with fail
        refine ST.mono ?_
        rintro e w2 ⟨rfl, hb2⟩
        go_wp2
        go_ret
        exact ⟨by rw [K.out]; rfl, B2.trans (hb2.mono B1.size)⟩

end Go.Proofs.YtggpmailkkpdaaaDoor
