/-
  The perimeter of a shape, the program's. Conditions: each theorem's own; it reads the listed table of steps.
-/
import Derived.Test.YtaeaflbmaokieaaDoorPeri
namespace Go.Proofs.YtaeaflbmaokieaaDoor
open Go.RowKit

theorem QMap.new {w : World} {b k : Nat} {D : Cols} (h : QMap w b D k) (o : Obj) : QMap (w.alloc o) b D k := World.ownsMap.alloc h o

set_option maxRecDepth 100000 in
set_option maxHeartbeats 4000000 in
set_option linter.unusedSimpArgs false in
theorem implPeri_any (v : Value) (D : Cols) (w : World) (hv : Qs w v D) (hS : Steps w) :
    Calls Tryd.prog 8 #[v] w fun e w' => e = .returned (.tuple #[.int .i64 (peR D), .int .i64 (peC D)]) ∧ Below w.heap.size w w' := by
  cases hb : shB D
  · have K1 : peR D = 0 := by unfold peR; rw [hb]; rfl
    have K2 : peC D = 1 := by unfold peC; rw [hb]; rfl
    have L := (implValidShape_any v D w hv)
    rw [hb] at L
    clear hS
    go_enter Tryd.func8, Tryd.ntmps8
    go_wp2_with fail
    refine L.mono ?_
    rintro e w1 ⟨rfl, hb1⟩
    go_wp2
    refine bodyPost_ret (v := .tuple #[.int .i64 0, .int .i64 1]) ?_ rfl ⟨?_, hb1⟩
    · simp [results, Tryd.results8, go_sem]
    · rw [K1, K2]
  · have K1 : peR D = periQ D D.n := by unfold peR; rw [hb]; rfl
    have K2 : peC D = 0 := by unfold peC; rw [hb]; rfl
    have L := (implValidShape_any v D w hv)
    rw [hb] at L
    have F := shB_iff.1 hb
    have HF := Lib.hid F
    have HV := Lib.hid hv
    have HS := Lib.hid hS
    have hSl := hS.lt
    have h500 := F.len
    have HK1 := Lib.hid K1
    have HK2 := Lib.hid K2
    obtain ⟨ao, cap, rfl, hl, hm, hc⟩ := hv.open_
    unfold maxLen at hm
    have H0 := Lib.hid hc
    clear hc F hb K1 K2 hv hS
    go_enter Tryd.func8, Tryd.ntmps8
    go_wp2_with fail
    refine L.mono ?_
    rintro e w1 ⟨rfl, hb1⟩
    have sz1 := hb1.size
    go_wp2_with fail
    refine (pointSet_any _ D w1 (HV.out.below hb1) HF.out).mono ?_
    rintro e w2 ⟨⟨mb, rfl, hmb, hmap⟩, hb2⟩
    have hb02 : Below w.heap.size w w2 := by (repeat (first | exact Below.refl _ _ | refine Below.setCell ?_ (by first | (simp; done) | (simp; omega) | omega) _ | refine belowN ?_ _ | refine Below.drew ?_ | refine Below.alloc ?_ (by first | (simp; done) | (simp; omega) | omega) _ | refine Below.trans ?_ (Below.mono (by assumption) (by first | (simp; done) | (simp; omega) | omega))))
    have sz2 := hb2.size
    have HM0 := Lib.hid hmap
    clear hb1 hb2 hmap
    go_wp2_with fail
    go_loopw [5, 16] (fun c i wr => ∃ k : Nat, k ≤ D.n ∧ i = .int .i64 k ∧ (∃ n : Int, n = periQ D k ∧ c = .int .i64 n) ∧ Hid (QMap wr mb D D.n) ∧ Below w.heap.size w wr) (fun _ i _ => D.n - (intOf i).toNat)
    case atStart => exact ⟨0, by omega, rfl, ⟨0, by simp [periQ], rfl⟩, HM0, hb02⟩
    case round =>
      obtain ⟨k, hk, rfl, ⟨n, hn, rfl⟩, hmp, hbw⟩ := hrel
      have hn1 := periQ_in D k
      rw [← hn] at hn1
      have HN := Lib.hid hn
      have szr := hbw.size
      clear hn hb02
      by_cases hlt : k < D.n
      · obtain ⟨b, off, rfl, H1⟩ := H0.out (by omega)
        obtain ⟨c0, c1⟩ := H1 k hlt
        have c0 := cell_below hbw c0
        have c1 := cell_below hbw c1
        have HP := Lib.hid (HF.out.all k hlt).pt
        have hpp := ptB_in (HF.out.all k hlt).pt
        clear H1
        generalize hX : D.c k 0 = x at *
        generalize hY : D.c k 1 = y at *
        have A0 := Lib.hid (At.new wr (.int .i64 x) (.int .i64 y) 33)
        have M0 := Lib.hid (hmp.out.new (.cells #[.int .i64 x, .int .i64 y] 33))
        go_wp2_with fail
        go_loopw [5, 8] (fun c i wq => ∃ d : Nat, d ≤ 4 ∧ i = .int .i64 d ∧ (∃ m : Int, m = n + sidesQ D x y d ∧ c = .int .i64 m) ∧ Hid (QMap wq mb D D.n) ∧ At wq wr.heap.size (.int .i64 x) (.int .i64 y) ∧ Below w.heap.size w wq) (fun _ i _ => 4 - (intOf i).toNat)
        case atStart => exact ⟨0, by omega, rfl, ⟨n, by simp [sidesQ], rfl⟩, M0, A0.out, by (repeat (first | exact Below.refl _ _ | refine Below.setCell ?_ (by first | (simp; done) | (simp; omega) | omega) _ | refine belowN ?_ _ | refine Below.drew ?_ | refine Below.alloc ?_ (by first | (simp; done) | (simp; omega) | omega) _ | refine Below.trans ?_ (Below.mono (by assumption) (by first | (simp; done) | (simp; omega) | omega))))⟩
        case round =>
          obtain ⟨d, hd, rfl, ⟨m, hm2, rfl⟩, hmq, hat, hbw2⟩ := hrel
          have hs := sidesQ_in D x y d
          have hm3 : 0 ≤ m ∧ m ≤ 3000 := by omega
          have HM := Lib.hid hm2
          clear hm2 hs
          by_cases hd4 : d < 4
          · obtain ⟨a0, a1⟩ := id hat
            have HA := Lib.hid hat
            clear hat
            have hd4' : (d : Int) ≤ 3 := by omega
            have sz2 := hbw2.size
            have HSq := Lib.hid (HS.out.below hbw2 hSl)
            cases hh : hasQ D (stepX x d) (stepY y d)
            · have hq := Lib.hid (outQ_no hh)
              go_wp2_with (first
                | (go_at_call 18; refine (neighbor_any x y d _ HSq.out (by omega) (by omega) (by omega) (by omega) (by omega) (by omega)).mono ?_; rintro e w3 ⟨rfl, hb3⟩; have sz3 := hb3.size)
                | (at_lookup; refine wpList_lookup_q _ rfl _ _ rfl mb D HF.out rfl (QMap.below hmq.out hb3) _ _ (near_step HP.out) rfl ?_; rw [hh]))
              go_roundw
              case rel => exact ⟨d + 1, by omega, by go_num, ⟨m + 1, by rw [HM.out]; simp only [sidesQ]; rw [hq.out]; omega, by go_num⟩, Lib.hid (hmq.out.below hb3), HA.out.below hb3, by (repeat (first | exact Below.refl _ _ | refine Below.setCell ?_ (by first | (simp; done) | (simp; omega) | omega) _ | refine belowN ?_ _ | refine Below.drew ?_ | refine Below.alloc ?_ (by first | (simp; done) | (simp; omega) | omega) _ | refine Below.trans ?_ (Below.mono (by assumption) (by first | (simp; done) | (simp; omega) | omega))))⟩
              case measure => simp [intOf]; omega
            · have hq := Lib.hid (outQ_yes hh)
              go_wp2_with (first
                | (go_at_call 18; refine (neighbor_any x y d _ HSq.out (by omega) (by omega) (by omega) (by omega) (by omega) (by omega)).mono ?_; rintro e w3 ⟨rfl, hb3⟩; have sz3 := hb3.size)
                | (at_lookup; refine wpList_lookup_q _ rfl _ _ rfl mb D HF.out rfl (QMap.below hmq.out hb3) _ _ (near_step HP.out) rfl ?_; rw [hh]))
              go_roundw
              case rel => exact ⟨d + 1, by omega, by go_num, ⟨m, by rw [HM.out]; simp only [sidesQ]; rw [hq.out]; omega, rfl⟩, Lib.hid (hmq.out.below hb3), HA.out.below hb3, by (repeat (first | exact Below.refl _ _ | refine Below.setCell ?_ (by first | (simp; done) | (simp; omega) | omega) _ | refine belowN ?_ _ | refine Below.drew ?_ | refine Below.alloc ?_ (by first | (simp; done) | (simp; omega) | omega) _ | refine Below.trans ?_ (Below.mono (by assumption) (by first | (simp; done) | (simp; omega) | omega))))⟩
              case measure => simp [intOf]; omega
          · obtain rfl : d = 4 := by omega
            clear hat
            go_wp2_with fail
            go_roundw
            case rel => exact ⟨k + 1, by omega, by go_num, ⟨m, by rw [HM.out, HN.out]; simp only [periQ]; rw [hX, hY], rfl⟩, hmq, by (repeat (first | exact Below.refl _ _ | refine Below.setCell ?_ (by first | (simp; done) | (simp; omega) | omega) _ | refine belowN ?_ _ | refine Below.drew ?_ | refine Below.alloc ?_ (by first | (simp; done) | (simp; omega) | omega) _ | refine Below.trans ?_ (Below.mono (by assumption) (by first | (simp; done) | (simp; omega) | omega))))⟩
            case measure => simp [intOf]; omega
      · obtain rfl : k = D.n := by omega
        go_wp2_with fail
        refine bodyPost_ret (v := .tuple #[.int .i64 n, .int .i64 0]) ?_ rfl ⟨?_, hbw⟩
        · simp [results, Tryd.results8, go_sem]
        · exact ret_two (by rw [HK1.out, HN.out]) HK2.out.symm

end Go.Proofs.YtaeaflbmaokieaaDoor
