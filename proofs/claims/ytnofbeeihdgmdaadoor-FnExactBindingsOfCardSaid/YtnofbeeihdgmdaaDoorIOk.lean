/-
  The program's test on a set of tiles says whether the set is valid. Conditions: each theorem's own.
-/
import Derived.Test.YtnofbeeihdgmdaaDoorSOk
import Derived.Test.YtnofbeeihdgmdaaDoorNums
namespace Go.Proofs.YtnofbeeihdgmdaaDoor
open Go.RowKit Go.Maps

open Classical in
noncomputable def vG (gs : List Gl) : Bool := decide (ValidG gs)
theorem vG_yes {gs : List Gl} (h : ValidG gs) : vG gs = true := by unfold vG; simpa using h
theorem vG_no {gs : List Gl} (h : ¬ ValidG gs) : vG gs = false := by unfold vG; simpa using h
open Classical in
noncomputable def vT (ts : List Tl) (n : Nat) : Bool := decide (ValidT ts n)
theorem vT_yes {ts : List Tl} {n : Nat} (h : ValidT ts n) : vT ts n = true := by unfold vT; simpa using h
theorem vT_no {ts : List Tl} {n : Nat} (h : ¬ ValidT ts n) : vT ts n = false := by unfold vT; simpa using h
open Classical in
noncomputable def vS (zs : List Int) (n : Nat) : Bool := decide (sidesOk zs n)
theorem vS_yes {zs : List Int} {n : Nat} (h : sidesOk zs n) : vS zs n = true := by unfold vS; simpa using h
theorem vS_no {zs : List Int} {n : Nat} (h : ¬ sidesOk zs n) : vS zs n = false := by unfold vS; simpa using h
theorem vS_iff {zs : List Int} {n : Nat} : vS zs n = true ↔ sidesOk zs n := by unfold vS; simp
theorem validB_eq (S : Set_) : validB S = (vG S.gs && vT S.ts S.gs.length) := by
  by_cases hg : ValidG S.gs
  · by_cases ht : ValidT S.ts S.gs.length
    · rw [validB_yes ⟨hg, ht⟩, vG_yes hg, vT_yes ht]; rfl
    · rw [validB_no fun h => ht h.t, vT_no ht]; simp
  · rw [validB_no fun h => hg h.g, vG_no hg]; simp

theorem size_vG {gs : List Gl} (hl : gs.length ≤ 200) (h : ∀ j, j < gs.length → nameB (gN gs j) = true ∧ 1 ≤ gS gs j ∧ gS gs j ≤ 4) : ((Maps.size (numMap (gN gs) 1 gs.length) : Int) == (gs.length : Int)) = vG gs := by
  have hz := (numMap_size (gN gs) 1 gs.length).2
  by_cases hd : Maps.size (numMap (gN gs) 1 gs.length) = gs.length
  · rw [vG_yes ⟨hl, fun i hi => ⟨(h i hi).1, (h i hi).2, fun j hj => hz.1 hd j i hj hi⟩⟩]
    simp [hd]
  · rw [vG_no fun hv => hd (hz.2 fun i j hij hj => (hv.all j hj).2.2 i hij)]
    simp; omega

set_option maxHeartbeats 1000000 in
theorem validGlues_any (v : Value) (gs : List Gl) (w : World) (hg : Glues w v gs) (ok : ∀ g ∈ gs, g.ok) (hn : gs.length ≤ 1048576) :
    Calls Tryd.prog 105 #[v] w fun e w' => e = .returned (.bool (vG gs)) ∧ Below w.heap.size w w' := by
  have HG := Lib.hid hg
  obtain ⟨ao, cap, rfl, hl, hm, hc⟩ := hg
  unfold maxLen at hm
  have H0 := Lib.hid hc
  clear hc
  by_cases n1 : 200 < gs.length
  · have K := Lib.hid (vG_no (gs := gs) fun h => by have := h.len; omega)
    go_enter Tryd.func105, Tryd.ntmps105
    go_wp2_with fail
    go_ret
    exact ⟨ret_bool (by rw [K.out]), by (repeat (first | exact Below.refl _ _ | refine Below.setCell ?_ (by first | (simp; done) | (simp; omega) | omega) _ | refine belowN ?_ _ | refine Below.drew ?_ | refine Below.alloc ?_ (by first | (simp; done) | (simp; omega) | omega) _ | refine Below.trans ?_ (Below.mono (by assumption) (by first | (simp; done) | (simp; omega) | omega))))⟩
  · have b1 : decide (200 < (gs.length : Int)) = false := by simp; omega
    go_enter Tryd.func105, Tryd.ntmps105
    go_wp2_with fail
    go_loopw [10] (fun i wr => ∃ k : Nat, k ≤ gs.length ∧ i = .int .i64 k ∧ Hid (∀ j, j < k → nameB (gN gs j) = true ∧ 1 ≤ gS gs j ∧ gS gs j ≤ 4) ∧ Below w.heap.size w wr) (fun i _ => gs.length - (intOf i).toNat)
    case atStart => exact ⟨0, by omega, rfl, Lib.hid (fun j hj => by omega), by (repeat (first | exact Below.refl _ _ | refine Below.setCell ?_ (by first | (simp; done) | (simp; omega) | omega) _ | refine belowN ?_ _ | refine Below.drew ?_ | refine Below.alloc ?_ (by first | (simp; done) | (simp; omega) | omega) _ | refine Below.trans ?_ (Below.mono (by assumption) (by first | (simp; done) | (simp; omega) | omega))))⟩
    case round =>
      obtain ⟨k, hk, rfl, hall, hbw⟩ := hrel
      by_cases hlt : k < gs.length
      · obtain ⟨b, off, rfl, H1⟩ := H0.out (by omega)
        have c0 := cell_below hbw (H1 k 0 hlt (by omega))
        have c1 := cell_below hbw (H1 k 1 hlt (by omega))
        simp at c0 c1
        clear H1
        have sw := hbw.size
        have hN1 := name_size (gN_ok ok hlt).1
        cases hnm : nameB (gN gs k)
        · have K := Lib.hid (vG_no (gs := gs) fun h => by have := (h.all k hlt).1; rw [hnm] at this; exact absurd this (by simp))
          go_wp2_with (go_at_call 119; refine (implName_any _ _ hN1).mono ?_; rintro e w' ⟨rfl, rfl⟩)
          go_ret
          exact ⟨ret_bool (by rw [K.out]), by (repeat (first | exact Below.refl _ _ | refine Below.setCell ?_ (by first | (simp; done) | (simp; omega) | omega) _ | refine belowN ?_ _ | refine Below.drew ?_ | refine Below.alloc ?_ (by first | (simp; done) | (simp; omega) | omega) _ | refine Below.trans ?_ (Below.mono (by assumption) (by first | (simp; done) | (simp; omega) | omega))))⟩
        · by_cases hs1 : gS gs k < 1
          · have K := Lib.hid (vG_no (gs := gs) fun h => by have := (h.all k hlt).2.1; omega)
            go_wp2_with (go_at_call 119; refine (implName_any _ _ hN1).mono ?_; rintro e w' ⟨rfl, rfl⟩)
            go_ret
            exact ⟨ret_bool (by rw [K.out]), by (repeat (first | exact Below.refl _ _ | refine Below.setCell ?_ (by first | (simp; done) | (simp; omega) | omega) _ | refine belowN ?_ _ | refine Below.drew ?_ | refine Below.alloc ?_ (by first | (simp; done) | (simp; omega) | omega) _ | refine Below.trans ?_ (Below.mono (by assumption) (by first | (simp; done) | (simp; omega) | omega))))⟩
          · by_cases hs4 : 4 < gS gs k
            · have K := Lib.hid (vG_no (gs := gs) fun h => by have := (h.all k hlt).2.1; omega)
              go_wp2_with (go_at_call 119; refine (implName_any _ _ hN1).mono ?_; rintro e w' ⟨rfl, rfl⟩)
              go_ret
              exact ⟨ret_bool (by rw [K.out]), by (repeat (first | exact Below.refl _ _ | refine Below.setCell ?_ (by first | (simp; done) | (simp; omega) | omega) _ | refine belowN ?_ _ | refine Below.drew ?_ | refine Below.alloc ?_ (by first | (simp; done) | (simp; omega) | omega) _ | refine Below.trans ?_ (Below.mono (by assumption) (by first | (simp; done) | (simp; omega) | omega))))⟩
            · go_wp2_with (go_at_call 119; refine (implName_any _ _ hN1).mono ?_; rintro e w' ⟨rfl, rfl⟩)
              go_roundw
              case rel =>
                refine ⟨k + 1, by omega, by go_num, Lib.hid fun j hj => ?_, by (repeat (first | exact Below.refl _ _ | refine Below.setCell ?_ (by first | (simp; done) | (simp; omega) | omega) _ | refine belowN ?_ _ | refine Below.drew ?_ | refine Below.alloc ?_ (by first | (simp; done) | (simp; omega) | omega) _ | refine Below.trans ?_ (Below.mono (by assumption) (by first | (simp; done) | (simp; omega) | omega))))⟩
                by_cases hjk : j < k
                · exact hall.out j hjk
                · obtain rfl : j = k := by omega
                  exact ⟨hnm, by omega, by omega⟩
              case measure => simp [intOf]; omega
      · obtain rfl : k = gs.length := by omega
        have HGr := Lib.hid (HG.out.below hbw)
        go_wp2_with fail
        refine (glueNumbers_any _ gs _ HGr.out ok hn).mono ?_
        rintro e w1 ⟨⟨rfl, hmap⟩, hb1⟩
        go_wp2_with (at_len; refine wpList_len_own _ rfl _ 159 rfl 9 2 Tryd.underlying159 _ _ _ _ rfl hmap ?_)
        go_ret
        have sw := hbw.size
        exact ⟨ret_bool (size_vG (by omega) hall.out), by (repeat (first | exact Below.refl _ _ | refine Below.setCell ?_ (by first | (simp; done) | (simp; omega) | omega) _ | refine belowN ?_ _ | refine Below.drew ?_ | refine Below.alloc ?_ (by first | (simp; done) | (simp; omega) | omega) _ | refine Below.trans ?_ (Below.mono (by assumption) (by first | (simp; done) | (simp; omega) | omega))))⟩

set_option maxHeartbeats 1000000 in
theorem validSides_any (v : Value) (zs : List Int) (n : Nat) (w : World) (hv : Ints w v zs) :
    Calls Tryd.prog 121 #[v, .int .i64 (n : Int)] w fun e w' => e = .returned (.bool (vS zs n)) ∧ w = w' := by
  obtain ⟨ao, cap, rfl, hl, hm, hc⟩ := hv
  unfold maxLen at hm
  have H0 := Lib.hid hc
  clear hc
  by_cases hln : zs.length = 4
  · have KL := Lib.hid hln
    have hl4 : 4 ≤ cap := by omega
    rw [hln]
    clear hln hl
    go_enter Tryd.func121, Tryd.ntmps121
    go_wp2_with fail
    go_loop [12] (fun i => ∃ k : Nat, k ≤ 4 ∧ i = .int .i64 k ∧ Hid (∀ j, j < k → 0 ≤ iAt zs j ∧ iAt zs j ≤ n)) (fun i => 4 - (intOf i).toNat)
    case atStart => exact ⟨0, by omega, rfl, Lib.hid (fun j hj => by omega)⟩
    case round =>
      obtain ⟨k, hk, rfl, hall⟩ := hrel
      by_cases hlt : k < 4
      · obtain ⟨b, off, rfl, H1⟩ := H0.out (by rw [KL.out]; omega)
        have c0 := H1 k 0 (by rw [KL.out]; exact hlt) (by omega)
        simp at c0
        clear H1
        by_cases h1 : iAt zs k < 0
        · have K := Lib.hid (vS_no (zs := zs) (n := n) fun h => by have := h.2 k hlt; omega)
          go_wp2
          go_ret
          exact ⟨ret_bool (by rw [K.out]), rfl⟩
        · by_cases h2 : (n : Int) < iAt zs k
          · have K := Lib.hid (vS_no (zs := zs) (n := n) fun h => by have := h.2 k hlt; omega)
            go_wp2
            go_ret
            exact ⟨ret_bool (by rw [K.out]), rfl⟩
          · go_wp2
            go_round
            case rel =>
              refine ⟨k + 1, by omega, by go_num, Lib.hid fun j hj => ?_⟩
              by_cases hjk : j < k
              · exact hall.out j hjk
              · obtain rfl : j = k := by omega
                exact ⟨by omega, by omega⟩
            case measure => simp [intOf]; omega
      · obtain rfl : k = 4 := by omega
        have K := Lib.hid (vS_yes (zs := zs) (n := n) ⟨KL.out, hall.out⟩)
        go_wp2
        go_ret
        exact ⟨ret_bool (by rw [K.out]), rfl⟩
  · have K := Lib.hid (vS_no (zs := zs) (n := n) fun h => hln h.1)
    have bl : ((zs.length : Int) != 4) = true := by simp; omega
    clear hln
    go_enter Tryd.func121, Tryd.ntmps121
    go_wp2
    go_ret
    exact ⟨ret_bool (by rw [K.out]), rfl⟩

theorem size_vT {ts : List Tl} {n : Nat} (h1 : 1 ≤ ts.length) (hl : ts.length ≤ 160) (h : ∀ j, j < ts.length → nameB (tN ts j) = true ∧ sidesOk (tS ts j) n) : ((Maps.size (numMap (tN ts) 0 ts.length) : Int) == (ts.length : Int)) = vT ts n := by
  have hz := (numMap_size (tN ts) 0 ts.length).2
  by_cases hd : Maps.size (numMap (tN ts) 0 ts.length) = ts.length
  · rw [vT_yes ⟨h1, hl, fun i hi => ⟨(h i hi).1, (h i hi).2, fun j hj => hz.1 hd j i hj hi⟩⟩]
    simp [hd]
  · rw [vT_no fun hv => hd (hz.2 fun i j hij hj => (hv.all j hj).2.2 i hij)]
    simp; omega

set_option maxHeartbeats 1000000 in
theorem validTiles_any (v : Value) (ts : List Tl) (n : Nat) (w : World) (hg : Tiles w v ts) (ok : ∀ t ∈ ts, t.ok) (hn : ts.length ≤ 1048576) :
    Calls Tryd.prog 106 #[v, .int .i64 (n : Int)] w fun e w' => e = .returned (.bool (vT ts n)) ∧ Below w.heap.size w w' := by
  have HG := Lib.hid hg
  obtain ⟨sv, ⟨ao, cap, rfl, hl, hm, hc⟩, hsv⟩ := hg
  unfold maxLen at hm
  have H0 := Lib.hid hc
  have HSV := Lib.hid hsv
  clear hc hsv
  by_cases n1 : ts.length < 1
  · have K := Lib.hid (vT_no (ts := ts) (n := n) fun h => by have := h.one; omega)
    go_enter Tryd.func106, Tryd.ntmps106
    go_wp2_with fail
    go_ret
    exact ⟨ret_bool (by rw [K.out]), by (repeat (first | exact Below.refl _ _ | refine Below.setCell ?_ (by first | (simp; done) | (simp; omega) | omega) _ | refine belowN ?_ _ | refine Below.drew ?_ | refine Below.alloc ?_ (by first | (simp; done) | (simp; omega) | omega) _ | refine Below.trans ?_ (Below.mono (by assumption) (by first | (simp; done) | (simp; omega) | omega))))⟩
  · by_cases n2 : 160 < ts.length
    · have K := Lib.hid (vT_no (ts := ts) (n := n) fun h => by have := h.len; omega)
      go_enter Tryd.func106, Tryd.ntmps106
      go_wp2_with fail
      go_ret
      exact ⟨ret_bool (by rw [K.out]), by (repeat (first | exact Below.refl _ _ | refine Below.setCell ?_ (by first | (simp; done) | (simp; omega) | omega) _ | refine belowN ?_ _ | refine Below.drew ?_ | refine Below.alloc ?_ (by first | (simp; done) | (simp; omega) | omega) _ | refine Below.trans ?_ (Below.mono (by assumption) (by first | (simp; done) | (simp; omega) | omega))))⟩
    · have b1 : decide ((ts.length : Int) < 1) = false := by simp; omega
      have b2 : decide (160 < (ts.length : Int)) = false := by simp; omega
      go_enter Tryd.func106, Tryd.ntmps106
      go_wp2_with fail
      go_loopw [17] (fun i wr => ∃ k : Nat, k ≤ ts.length ∧ i = .int .i64 k ∧ Hid (∀ j, j < k → nameB (tN ts j) = true ∧ sidesOk (tS ts j) n) ∧ Below w.heap.size w wr) (fun i _ => ts.length - (intOf i).toNat)
      case atStart => exact ⟨0, by omega, rfl, Lib.hid (fun j hj => by omega), by (repeat (first | exact Below.refl _ _ | refine Below.setCell ?_ (by first | (simp; done) | (simp; omega) | omega) _ | refine belowN ?_ _ | refine Below.drew ?_ | refine Below.alloc ?_ (by first | (simp; done) | (simp; omega) | omega) _ | refine Below.trans ?_ (Below.mono (by assumption) (by first | (simp; done) | (simp; omega) | omega))))⟩
      case round =>
        obtain ⟨k, hk, rfl, hall, hbw⟩ := hrel
        by_cases hlt : k < ts.length
        · obtain ⟨b, off, rfl, H1⟩ := H0.out (by omega)
          have c0 := cell_below hbw (H1 k 0 hlt (by omega))
          have c1 := cell_below hbw (H1 k 1 hlt (by omega))
          simp at c0 c1
          have hI := (HSV.out k hlt).below hbw
          obtain ⟨so, scap, hsk, hs⟩ := hI
          have hI : Ints wr (sv k) (tS ts k) := ⟨so, scap, hsk, hs⟩
          rw [hsk] at c1 hI
          have HI := Lib.hid hI
          clear H1 hsk hs hI
          have sw := hbw.size
          have hN1 := name_size (tN_ok ok hlt).1
          cases hnm : nameB (tN ts k)
          · have K := Lib.hid (vT_no (ts := ts) (n := n) fun h => by have := (h.all k hlt).1; rw [hnm] at this; exact absurd this (by simp))
            go_wp2_with (go_at_call 119; refine (implName_any _ _ hN1).mono ?_; rintro e w' ⟨rfl, rfl⟩)
            go_ret
            exact ⟨ret_bool (by rw [K.out]), by (repeat (first | exact Below.refl _ _ | refine Below.setCell ?_ (by first | (simp; done) | (simp; omega) | omega) _ | refine belowN ?_ _ | refine Below.drew ?_ | refine Below.alloc ?_ (by first | (simp; done) | (simp; omega) | omega) _ | refine Below.trans ?_ (Below.mono (by assumption) (by first | (simp; done) | (simp; omega) | omega))))⟩
          · cases hsd : vS (tS ts k) n
            · have K := Lib.hid (vT_no (ts := ts) (n := n) fun h => by have := vS_yes (h.all k hlt).2.1; rw [hsd] at this; exact absurd this (by simp))
              go_wp2_with (first | (go_at_call 119; refine (implName_any _ _ hN1).mono ?_; rintro e w' ⟨rfl, rfl⟩) | (go_at_call 121; refine (validSides_any _ (tS ts k) n _ (HI.out.below (by (repeat (first | exact Below.refl _ _ | refine Below.setCell ?_ (by first | (simp; done) | (simp; omega) | omega) _ | refine belowN ?_ _ | refine Below.drew ?_ | refine Below.alloc ?_ (by first | (simp; done) | (simp; omega) | omega) _ | refine Below.trans ?_ (Below.mono (by assumption) (by first | (simp; done) | (simp; omega) | omega))))))).mono ?_; rintro e w' ⟨rfl, rfl⟩))
              go_ret
              exact ⟨ret_bool (by rw [K.out]), by (repeat (first | exact Below.refl _ _ | refine Below.setCell ?_ (by first | (simp; done) | (simp; omega) | omega) _ | refine belowN ?_ _ | refine Below.drew ?_ | refine Below.alloc ?_ (by first | (simp; done) | (simp; omega) | omega) _ | refine Below.trans ?_ (Below.mono (by assumption) (by first | (simp; done) | (simp; omega) | omega))))⟩
            · go_wp2_with (first | (go_at_call 119; refine (implName_any _ _ hN1).mono ?_; rintro e w' ⟨rfl, rfl⟩) | (go_at_call 121; refine (validSides_any _ (tS ts k) n _ (HI.out.below (by (repeat (first | exact Below.refl _ _ | refine Below.setCell ?_ (by first | (simp; done) | (simp; omega) | omega) _ | refine belowN ?_ _ | refine Below.drew ?_ | refine Below.alloc ?_ (by first | (simp; done) | (simp; omega) | omega) _ | refine Below.trans ?_ (Below.mono (by assumption) (by first | (simp; done) | (simp; omega) | omega))))))).mono ?_; rintro e w' ⟨rfl, rfl⟩))
              go_roundw
              case rel =>
                refine ⟨k + 1, by omega, by go_num, Lib.hid fun j hj => ?_, by (repeat (first | exact Below.refl _ _ | refine Below.setCell ?_ (by first | (simp; done) | (simp; omega) | omega) _ | refine belowN ?_ _ | refine Below.drew ?_ | refine Below.alloc ?_ (by first | (simp; done) | (simp; omega) | omega) _ | refine Below.trans ?_ (Below.mono (by assumption) (by first | (simp; done) | (simp; omega) | omega))))⟩
                by_cases hjk : j < k
                · exact hall.out j hjk
                · obtain rfl : j = k := by omega
                  exact ⟨hnm, vS_iff.1 hsd⟩
              case measure => simp [intOf]; omega
        · obtain rfl : k = ts.length := by omega
          have HGr := Lib.hid (HG.out.below hbw)
          have sw := hbw.size
          go_wp2_with fail
          refine (tileIndices_any _ ts _ HGr.out ok hn).mono ?_
          rintro e w1 ⟨⟨rfl, hmap⟩, hb1⟩
          go_wp2_with (at_len; refine wpList_len_own _ rfl _ 159 rfl 9 2 Tryd.underlying159 _ _ _ _ rfl hmap ?_)
          go_ret
          exact ⟨ret_bool (size_vT (by omega) (by omega) hall.out), by (repeat (first | exact Below.refl _ _ | refine Below.setCell ?_ (by first | (simp; done) | (simp; omega) | omega) _ | refine belowN ?_ _ | refine Below.drew ?_ | refine Below.alloc ?_ (by first | (simp; done) | (simp; omega) | omega) _ | refine Below.trans ?_ (Below.mono (by assumption) (by first | (simp; done) | (simp; omega) | omega))))⟩

theorem implValid_any (vg vt : Value) (S : Set_) (w : World) (hS : SetIn w vg vt S) (ok : S.ok) (hs : S.small) :
    Calls Tryd.prog 77 #[.agg #[vg, vt]] w fun e w' => e = .returned (.bool (validB S)) ∧ Below w.heap.size w w' := by
  have HG := Lib.hid hS.g
  have HT := Lib.hid hS.t
  have hg := hS.g
  obtain ⟨ao, cap, rfl, hl, hm, -⟩ := hg
  have hgl := hs.gl
  have htl := hs.tl
  unfold maxLen at hm
  have KV := Lib.hid (validB_eq S)
  clear hS
  cases hv : vG S.gs
  · go_enter Tryd.func77, Tryd.ntmps77
    go_wp2_with fail
    refine (validGlues_any _ S.gs _ (HG.out.below (by (repeat (first | exact Below.refl _ _ | refine Below.setCell ?_ (by first | (simp; done) | (simp; omega) | omega) _ | refine belowN ?_ _ | refine Below.drew ?_ | refine Below.alloc ?_ (by first | (simp; done) | (simp; omega) | omega) _ | refine Below.trans ?_ (Below.mono (by assumption) (by first | (simp; done) | (simp; omega) | omega)))))) ok.g hgl).mono ?_
    rintro e w1 ⟨rfl, hb1⟩
    go_wp2_with fail
    go_ret
    exact ⟨ret_bool (by rw [KV.out, hv]; rfl), by (repeat (first | exact Below.refl _ _ | refine Below.setCell ?_ (by first | (simp; done) | (simp; omega) | omega) _ | refine belowN ?_ _ | refine Below.drew ?_ | refine Below.alloc ?_ (by first | (simp; done) | (simp; omega) | omega) _ | refine Below.trans ?_ (Below.mono (by assumption) (by first | (simp; done) | (simp; omega) | omega))))⟩
  · go_enter Tryd.func77, Tryd.ntmps77
    go_wp2_with fail
    refine (validGlues_any _ S.gs _ (HG.out.below (by (repeat (first | exact Below.refl _ _ | refine Below.setCell ?_ (by first | (simp; done) | (simp; omega) | omega) _ | refine belowN ?_ _ | refine Below.drew ?_ | refine Below.alloc ?_ (by first | (simp; done) | (simp; omega) | omega) _ | refine Below.trans ?_ (Below.mono (by assumption) (by first | (simp; done) | (simp; omega) | omega)))))) ok.g hgl).mono ?_
    rintro e w1 ⟨rfl, hb1⟩
    obtain ⟨hc1, hf1, hl1, -⟩ := bfull hb1
    have s1 := hb1.size
    simp at s1
    go_wp2_with fail
    refine (validTiles_any _ S.ts S.gs.length _ (HT.out.below (by (repeat (first | exact Below.refl _ _ | refine Below.setCell ?_ (by first | (simp; done) | (simp; omega) | omega) _ | refine belowN ?_ _ | refine Below.drew ?_ | refine Below.alloc ?_ (by first | (simp; done) | (simp; omega) | omega) _ | refine Below.trans ?_ (Below.mono (by assumption) (by first | (simp; done) | (simp; omega) | omega)))))) ok.t htl).mono ?_
    rintro e w2 ⟨rfl, hb2⟩
    go_wp2_with fail
    go_ret
    exact ⟨ret_bool (by rw [KV.out, hv]; rfl), by (repeat (first | exact Below.refl _ _ | refine Below.setCell ?_ (by first | (simp; done) | (simp; omega) | omega) _ | refine belowN ?_ _ | refine Below.drew ?_ | refine Below.alloc ?_ (by first | (simp; done) | (simp; omega) | omega) _ | refine Below.trans ?_ (Below.mono (by assumption) (by first | (simp; done) | (simp; omega) | omega))))⟩

end Go.Proofs.YtnofbeeihdgmdaaDoor
