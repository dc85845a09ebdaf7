/-
  Equality of lists of numbers, of glues, of tiles and of sets, the model's and the program's. Conditions: each theorem's own.
-/
import Derived.Test.YtfoegoanbppaaaaSetLaw
import Derived.Laws.StructEq
namespace Go.Proofs.Ytfoegoanbppaaaa
open Go.RowKit

theorem ints_ext {a b : List Int} (hl : a.length = b.length) (h : ∀ i, i < a.length → iAt a i = iAt b i) : a = b := by
  apply List.ext_getElem hl
  intro i h1 h2
  have := h i h1
  simpa [iAt, h1, h2] using this
theorem gl_ext {a b : List Gl} (hl : a.length = b.length) (h : ∀ i, i < a.length → gN a i = gN b i ∧ gS a i = gS b i) : a = b := by
  apply List.ext_getElem hl
  intro i h1 h2
  have := h i h1
  simp only [gN, gS, List.getD_eq_getElem?_getD, List.getElem?_eq_getElem h1, List.getElem?_eq_getElem h2, Option.getD_some] at this
  cases ha : a[i]; cases hb : b[i]
  simp_all
theorem tl_ext {a b : List Tl} (hl : a.length = b.length) (h : ∀ i, i < a.length → tN a i = tN b i ∧ tS a i = tS b i) : a = b := by
  apply List.ext_getElem hl
  intro i h1 h2
  have := h i h1
  simp only [tN, tS, List.getD_eq_getElem?_getD, List.getElem?_eq_getElem h1, List.getElem?_eq_getElem h2, Option.getD_some] at this
  cases ha : a[i]; cases hb : b[i]
  simp_all
open Classical in
noncomputable def sameI (a b : List Int) : Bool := decide (a = b)
open Classical in
noncomputable def sameG (a b : List Gl) : Bool := decide (a = b)
open Classical in
noncomputable def sameT (a b : List Tl) : Bool := decide (a = b)
theorem sameI_yes {a b : List Int} (h : a = b) : sameI a b = true := by simp [sameI, h]
theorem sameI_no {a b : List Int} (h : a ≠ b) : sameI a b = false := by simp [sameI, h]
theorem sameG_yes {a b : List Gl} (h : a = b) : sameG a b = true := by simp [sameG, h]
theorem sameG_no {a b : List Gl} (h : a ≠ b) : sameG a b = false := by simp [sameG, h]
theorem sameT_yes {a b : List Tl} (h : a = b) : sameT a b = true := by simp [sameT, h]
theorem sameT_no {a b : List Tl} (h : a ≠ b) : sameT a b = false := by simp [sameT, h]
noncomputable def sameS (S R : Set_) : Bool := sameG S.gs R.gs && sameT S.ts R.ts

/-- w' is w behind some draws. -/
def Drawn (w w' : World) : Prop := ∃ n, w' = w.drewN n
theorem Drawn.refl (w : World) : Drawn w w := ⟨0, rfl⟩
theorem Drawn.more {w w' : World} (h : Drawn w w') (n : Nat) : Drawn w (w'.drewN n) := by
  obtain ⟨m, rfl⟩ := h
  exact ⟨m + n, by rw [World.drewN_drewN]⟩
theorem Drawn.cell {w w' : World} (h : Drawn w w') {a : Addr} {v : Value} (hc : w.cell? a = some v) : w'.cell? a = some v := by
  obtain ⟨m, rfl⟩ := h
  exact hc
theorem Drawn.below {w w' : World} (h : Drawn w w') : Below w.heap.size w w' := by
  obtain ⟨m, rfl⟩ := h
  exact belowN (Below.refl _ _) m

set_option maxHeartbeats 800000 in
theorem l00Same_any (u v : Value) (zs ys : List Int) (w : World) (hu : Ints w u zs) (hv : Ints w v ys) :
    Calls Try.prog 85 #[u, v] w fun e w' => e = .returned (.bool (sameI zs ys)) ∧ Drawn w w' := by
  obtain ⟨ao, cap, rfl, hl, hm, hc⟩ := hu
  obtain ⟨bo, cap2, rfl, hl2, hm2, hc2⟩ := hv
  unfold maxLen at hm hm2
  have H0 := Lib.hid hc
  have H2 := Lib.hid hc2
  clear hc hc2
  by_cases hlen : zs.length = ys.length
  · have HL := Lib.hid hlen
    have e2 : Value.slice bo ys.length cap2 = .slice bo zs.length cap2 := by rw [hlen]
    rw [e2]
    have hl3 : zs.length ≤ cap2 := by omega
    clear hlen e2 hl2
    go_enter Try.func85, Try.ntmps85
    go_wp2_with fail
    go_loopw [5] (fun i wr => ∃ k : Nat, k ≤ zs.length ∧ i = .int .i64 k ∧ Hid (∀ j, j < k → iAt zs j = iAt ys j) ∧ Drawn w wr) (fun i _ => zs.length - (intOf i).toNat)
    case atStart => exact ⟨0, by omega, rfl, Lib.hid (fun j hj => by omega), Drawn.refl w⟩
    case round =>
      obtain ⟨k, hk, rfl, hall, hbw⟩ := hrel
      by_cases hlt : k < zs.length
      · obtain ⟨b, off, rfl, H1⟩ := H0.out (by omega)
        obtain ⟨b2, off2, rfl, H3⟩ := H2.out (by have := HL.out; omega)
        have c0 := hbw.cell (H1 k 0 hlt (by omega))
        have d0 := hbw.cell (H3 k 0 (by have := HL.out; omega) (by omega))
        simp at c0 d0
        clear H1 H3
        by_cases he : iAt zs k = iAt ys k
        · have HE := Lib.hid he
          rw [← he] at d0
          clear he
          go_wp2_with fail
          go_quiet (fail)
          go_wp2
          go_roundw
          case rel =>
            refine ⟨k + 1, by omega, by go_num, Lib.hid fun j hj => ?_, hbw.more _⟩
            by_cases hjk : j < k
            · exact hall.out j hjk
            · obtain rfl : j = k := by omega
              exact HE.out
          case measure => simp [intOf]; omega
        · have K := Lib.hid (sameI_no (a := zs) (b := ys) fun h => he (by rw [h]))
          have bn : (iAt zs k != iAt ys k) = true := by simpa using he
          clear he
          go_wp2_with fail
          go_quiet (fail)
          go_wp2
          go_ret
          exact ⟨ret_bool (by rw [K.out]), hbw.more _⟩
      · obtain rfl : k = zs.length := by omega
        have K := Lib.hid (sameI_yes (ints_ext HL.out hall.out))
        go_wp2
        go_ret
        exact ⟨ret_bool (by rw [K.out]), hbw⟩
  · have K := Lib.hid (sameI_no (a := zs) (b := ys) fun h => hlen (by rw [h]))
    have bn : ((zs.length : Int) != (ys.length : Int)) = true := by rw [bne_iff_ne]; omega
    clear hlen
    go_enter Try.func85, Try.ntmps85
    go_wp2
    go_ret
    exact ⟨ret_bool (by rw [K.out]), Drawn.refl w⟩

set_option maxHeartbeats 800000 in
theorem slicesEqI_any (u v : Value) (zs ys : List Int) (w : World) (hu : Ints w u zs) (hv : Ints w v ys) :
    Calls Try.prog 102 #[u, v] w fun e w' => e = .returned (.bool (sameI zs ys)) ∧ Below w.heap.size w w' := by
  obtain ⟨ao, cap, rfl, hl, hm, hc⟩ := hu
  obtain ⟨bo, cap2, rfl, hl2, hm2, hc2⟩ := hv
  unfold maxLen at hm hm2
  have H0 := Lib.hid hc
  have H2 := Lib.hid hc2
  clear hc hc2
  by_cases hlen : zs.length = ys.length
  · have HL := Lib.hid hlen
    have e2 : Value.slice bo ys.length cap2 = .slice bo zs.length cap2 := by rw [hlen]
    rw [e2]
    have hl3 : zs.length ≤ cap2 := by omega
    clear hlen e2 hl2
    go_enter Try.func102, Try.ntmps102
    go_wp2_with fail
    go_loopw [13] (fun i wr => ∃ k : Nat, k ≤ zs.length ∧ i = .int .i64 k ∧ Hid (∀ j, j < k → iAt zs j = iAt ys j) ∧ Below w.heap.size w wr) (fun i _ => zs.length - (intOf i).toNat)
    case atStart => exact ⟨0, by omega, rfl, Lib.hid (fun j hj => by omega), by (repeat (first | exact Below.refl _ _ | refine Below.setCell ?_ (by first | (simp; done) | (simp; omega) | omega) _ | refine belowN ?_ _ | refine Below.drew ?_ | refine Below.alloc ?_ (by first | (simp; done) | (simp; omega) | omega) _ | refine Below.trans ?_ (Below.mono (by assumption) (by first | (simp; done) | (simp; omega) | omega))))⟩
    case round =>
      obtain ⟨k, hk, rfl, hall, hbw⟩ := hrel
      by_cases hlt : k < zs.length
      · obtain ⟨b, off, rfl, H1⟩ := H0.out (by omega)
        obtain ⟨b2, off2, rfl, H3⟩ := H2.out (by have := HL.out; omega)
        have c0 := cell_below hbw (H1 k 0 hlt (by omega))
        have d0 := cell_below hbw (H3 k 0 (by have := HL.out; omega) (by omega))
        simp at c0 d0
        clear H1 H3
        by_cases he : iAt zs k = iAt ys k
        · have HE := Lib.hid he
          rw [← he] at d0
          clear he
          go_wp2_with fail
          go_quiet (fail)
          go_wp2
          go_roundw
          case rel =>
            refine ⟨k + 1, by omega, by go_num, Lib.hid fun j hj => ?_, by (repeat (first | exact Below.refl _ _ | refine Below.setCell ?_ (by first | (simp; done) | (simp; omega) | omega) _ | refine belowN ?_ _ | refine Below.drew ?_ | refine Below.alloc ?_ (by first | (simp; done) | (simp; omega) | omega) _ | refine Below.trans ?_ (Below.mono (by assumption) (by first | (simp; done) | (simp; omega) | omega))))⟩
            by_cases hjk : j < k
            · exact hall.out j hjk
            · obtain rfl : j = k := by omega
              exact HE.out
          case measure => simp [intOf]; omega
        · have K := Lib.hid (sameI_no (a := zs) (b := ys) fun h => he (by rw [h]))
          have bn : (iAt zs k != iAt ys k) = true := by simpa using he
          clear he
          go_wp2_with fail
          go_quiet (fail)
          go_wp2
          go_ret
          exact ⟨ret_bool (by rw [K.out]), by (repeat (first | exact Below.refl _ _ | refine Below.setCell ?_ (by first | (simp; done) | (simp; omega) | omega) _ | refine belowN ?_ _ | refine Below.drew ?_ | refine Below.alloc ?_ (by first | (simp; done) | (simp; omega) | omega) _ | refine Below.trans ?_ (Below.mono (by assumption) (by first | (simp; done) | (simp; omega) | omega))))⟩
      · obtain rfl : k = zs.length := by omega
        have K := Lib.hid (sameI_yes (ints_ext HL.out hall.out))
        go_wp2
        go_ret
        exact ⟨ret_bool (by rw [K.out]), hbw⟩
  · have K := Lib.hid (sameI_no (a := zs) (b := ys) fun h => hlen (by rw [h]))
    have bn : ((zs.length : Int) != (ys.length : Int)) = true := by rw [bne_iff_ne]; omega
    clear hlen
    go_enter Try.func102, Try.ntmps102
    go_wp2
    go_ret
    exact ⟨ret_bool (by rw [K.out]), by (repeat (first | exact Below.refl _ _ | refine Below.setCell ?_ (by first | (simp; done) | (simp; omega) | omega) _ | refine belowN ?_ _ | refine Below.drew ?_ | refine Below.alloc ?_ (by first | (simp; done) | (simp; omega) | omega) _ | refine Below.trans ?_ (Below.mono (by assumption) (by first | (simp; done) | (simp; omega) | omega))))⟩

set_option maxHeartbeats 800000 in
theorem slicesEqG_any (u v : Value) (zs ys : List Gl) (w : World) (hu : Glues w u zs) (hv : Glues w v ys) :
    Calls Try.prog 57 #[u, v] w fun e w' => e = .returned (.bool (sameG zs ys)) ∧ Below w.heap.size w w' := by
  obtain ⟨ao, cap, rfl, hl, hm, hc⟩ := hu
  obtain ⟨bo, cap2, rfl, hl2, hm2, hc2⟩ := hv
  unfold maxLen at hm hm2
  have H0 := Lib.hid hc
  have H2 := Lib.hid hc2
  clear hc hc2
  by_cases hlen : zs.length = ys.length
  · have HL := Lib.hid hlen
    have e2 : Value.slice bo ys.length cap2 = .slice bo zs.length cap2 := by rw [hlen]
    rw [e2]
    have hl3 : zs.length ≤ cap2 := by omega
    clear hlen e2 hl2
    go_enter Try.func57, Try.ntmps57
    go_wp2_with fail
    go_loopw [13] (fun i wr => ∃ k : Nat, k ≤ zs.length ∧ i = .int .i64 k ∧ Hid (∀ j, j < k → gN zs j = gN ys j ∧ gS zs j = gS ys j) ∧ Below w.heap.size w wr) (fun i _ => zs.length - (intOf i).toNat)
    case atStart => exact ⟨0, by omega, rfl, Lib.hid (fun j hj => by omega), by (repeat (first | exact Below.refl _ _ | refine Below.setCell ?_ (by first | (simp; done) | (simp; omega) | omega) _ | refine belowN ?_ _ | refine Below.drew ?_ | refine Below.alloc ?_ (by first | (simp; done) | (simp; omega) | omega) _ | refine Below.trans ?_ (Below.mono (by assumption) (by first | (simp; done) | (simp; omega) | omega))))⟩
    case round =>
      obtain ⟨k, hk, rfl, hall, hbw⟩ := hrel
      by_cases hlt : k < zs.length
      · obtain ⟨b, off, rfl, H1⟩ := H0.out (by omega)
        obtain ⟨b2, off2, rfl, H3⟩ := H2.out (by have := HL.out; omega)
        have c0 := cell_below hbw (H1 k 0 hlt (by omega))
        have d0 := cell_below hbw (H3 k 0 (by have := HL.out; omega) (by omega))
        have c1 := cell_below hbw (H1 k 1 hlt (by omega))
        have d1 := cell_below hbw (H3 k 1 (by have := HL.out; omega) (by omega))
        simp at c0 d0 c1 d1
        clear H1 H3
        by_cases he : gN zs k = gN ys k ∧ gS zs k = gS ys k
        · have HE := Lib.hid he
          rw [← he.1] at d0
          rw [← he.2] at d1
          clear he
          go_wp2_with fail
          go_quiet (fail)
          go_wp2
          go_roundw
          case rel =>
            refine ⟨k + 1, by omega, by go_num, Lib.hid fun j hj => ?_, by (repeat (first | exact Below.refl _ _ | refine Below.setCell ?_ (by first | (simp; done) | (simp; omega) | omega) _ | refine belowN ?_ _ | refine Below.drew ?_ | refine Below.alloc ?_ (by first | (simp; done) | (simp; omega) | omega) _ | refine Below.trans ?_ (Below.mono (by assumption) (by first | (simp; done) | (simp; omega) | omega))))⟩
            by_cases hjk : j < k
            · exact hall.out j hjk
            · obtain rfl : j = k := by omega
              exact HE.out
          case measure => simp [intOf]; omega
        · have K := Lib.hid (sameG_no (a := zs) (b := ys) fun h => he (by rw [h]; exact ⟨rfl, rfl⟩))
          by_cases hn : gN zs k = gN ys k
          · have bn : (gS zs k == gS ys k) = false := by
              rw [beq_eq_false_iff_ne]; exact fun h => he ⟨hn, h⟩
            rw [← hn] at d0
            clear he hn
            go_wp2_with fail
            go_quiet (fail)
            go_wp2
            go_ret
            exact ⟨ret_bool (by rw [K.out]), by (repeat (first | exact Below.refl _ _ | refine Below.setCell ?_ (by first | (simp; done) | (simp; omega) | omega) _ | refine belowN ?_ _ | refine Below.drew ?_ | refine Below.alloc ?_ (by first | (simp; done) | (simp; omega) | omega) _ | refine Below.trans ?_ (Below.mono (by assumption) (by first | (simp; done) | (simp; omega) | omega))))⟩
          · have bn := str_ne2 hn
            clear he hn
            go_wp2_with fail
            go_quiet (fail)
            go_wp2
            go_ret
            exact ⟨ret_bool (by rw [K.out]), by (repeat (first | exact Below.refl _ _ | refine Below.setCell ?_ (by first | (simp; done) | (simp; omega) | omega) _ | refine belowN ?_ _ | refine Below.drew ?_ | refine Below.alloc ?_ (by first | (simp; done) | (simp; omega) | omega) _ | refine Below.trans ?_ (Below.mono (by assumption) (by first | (simp; done) | (simp; omega) | omega))))⟩
      · obtain rfl : k = zs.length := by omega
        have K := Lib.hid (sameG_yes (gl_ext HL.out hall.out))
        go_wp2
        go_ret
        exact ⟨ret_bool (by rw [K.out]), hbw⟩
  · have K := Lib.hid (sameG_no (a := zs) (b := ys) fun h => hlen (by rw [h]))
    have bn : ((zs.length : Int) != (ys.length : Int)) = true := by rw [bne_iff_ne]; omega
    clear hlen
    go_enter Try.func57, Try.ntmps57
    go_wp2
    go_ret
    exact ⟨ret_bool (by rw [K.out]), by (repeat (first | exact Below.refl _ _ | refine Below.setCell ?_ (by first | (simp; done) | (simp; omega) | omega) _ | refine belowN ?_ _ | refine Below.drew ?_ | refine Below.alloc ?_ (by first | (simp; done) | (simp; omega) | omega) _ | refine Below.trans ?_ (Below.mono (by assumption) (by first | (simp; done) | (simp; omega) | omega))))⟩

open Classical in
noncomputable def sameTl (s t : ByteArray) (zs ys : List Int) : Bool := decide (s = t ∧ zs = ys)
theorem sameTl_yes {s t : ByteArray} {zs ys : List Int} (h : s = t) (h2 : zs = ys) : sameTl s t zs ys = true := by simp [sameTl, h, h2]
theorem sameTl_no {s t : ByteArray} {zs ys : List Int} (h : ¬ (s = t ∧ zs = ys)) : sameTl s t zs ys = false := by unfold sameTl; exact decide_eq_false h

theorem sameTile_any (s t : ByteArray) (u v : Value) (zs ys : List Int) (w : World) (hu : Ints w u zs) (hv : Ints w v ys) :
    Calls Try.prog 59 #[.agg #[.string s, u], .agg #[.string t, v]] w fun e w' => e = .returned (.bool (sameTl s t zs ys)) ∧ Below w.heap.size w w' := by
  have HU := Lib.hid hu
  have HV := Lib.hid hv
  clear hu hv
  by_cases hn : s = t
  · subst hn
    have K : Hid (sameI zs ys = sameTl s s zs ys) := by
      by_cases h : zs = ys
      · rw [sameI_yes h, sameTl_yes rfl h]; rfl
      · rw [sameI_no h, sameTl_no fun x => h x.2]; rfl
    go_enter Try.func59, Try.ntmps59
    go_wp2_with fail
    refine (slicesEqI_any u v zs ys _ (HU.out.below (by (repeat (first | exact Below.refl _ _ | refine Below.setCell ?_ (by first | (simp; done) | (simp; omega) | omega) _ | refine belowN ?_ _ | refine Below.drew ?_ | refine Below.alloc ?_ (by first | (simp; done) | (simp; omega) | omega) _ | refine Below.trans ?_ (Below.mono (by assumption) (by first | (simp; done) | (simp; omega) | omega)))))) (HV.out.below (by (repeat (first | exact Below.refl _ _ | refine Below.setCell ?_ (by first | (simp; done) | (simp; omega) | omega) _ | refine belowN ?_ _ | refine Below.drew ?_ | refine Below.alloc ?_ (by first | (simp; done) | (simp; omega) | omega) _ | refine Below.trans ?_ (Below.mono (by assumption) (by first | (simp; done) | (simp; omega) | omega))))))).mono ?_
    rintro e w1 ⟨rfl, hb1⟩
    go_wp2
    go_ret
    exact ⟨ret_bool (by rw [K.out]), by (repeat (first | exact Below.refl _ _ | refine Below.setCell ?_ (by first | (simp; done) | (simp; omega) | omega) _ | refine belowN ?_ _ | refine Below.drew ?_ | refine Below.alloc ?_ (by first | (simp; done) | (simp; omega) | omega) _ | refine Below.trans ?_ (Below.mono (by assumption) (by first | (simp; done) | (simp; omega) | omega))))⟩
  · have bn := str_ne2 hn
    have K := Lib.hid (sameTl_no (s := s) (t := t) (zs := zs) (ys := ys) fun x => hn x.1)
    clear hn
    go_enter Try.func59, Try.ntmps59
    go_wp2
    go_ret
    exact ⟨ret_bool (by rw [K.out]), by (repeat (first | exact Below.refl _ _ | refine Below.setCell ?_ (by first | (simp; done) | (simp; omega) | omega) _ | refine belowN ?_ _ | refine Below.drew ?_ | refine Below.alloc ?_ (by first | (simp; done) | (simp; omega) | omega) _ | refine Below.trans ?_ (Below.mono (by assumption) (by first | (simp; done) | (simp; omega) | omega))))⟩

set_option maxHeartbeats 1600000 in
theorem slicesEqT_any (u v : Value) (zs ys : List Tl) (w : World) (hu : Tiles w u zs) (hv : Tiles w v ys) :
    Calls Try.prog 58 #[u, v, .func (.func 59) #[] #[]] w fun e w' => e = .returned (.bool (sameT zs ys)) ∧ Below w.heap.size w w' := by
  obtain ⟨sv, ⟨ao, cap, rfl, hl, hm, hc⟩, hsv⟩ := hu
  obtain ⟨sv2, ⟨bo, cap2, rfl, hl2, hm2, hc2⟩, hsv2⟩ := hv
  unfold maxLen at hm hm2
  have H0 := Lib.hid hc
  have H2 := Lib.hid hc2
  have HS := Lib.hid hsv
  have HS2 := Lib.hid hsv2
  clear hc hc2 hsv hsv2
  by_cases hlen : zs.length = ys.length
  · have HL := Lib.hid hlen
    have e2 : Value.slice bo ys.length cap2 = .slice bo zs.length cap2 := by rw [hlen]
    rw [e2]
    have hl3 : zs.length ≤ cap2 := by omega
    clear hlen e2 hl2
    go_enter Try.func58, Try.ntmps58
    go_wp2_with fail
    go_loopw [17] (fun i wr => ∃ k : Nat, k ≤ zs.length ∧ i = .int .i64 k ∧ Hid (∀ j, j < k → tN zs j = tN ys j ∧ tS zs j = tS ys j) ∧ Below w.heap.size w wr) (fun i _ => zs.length - (intOf i).toNat)
    case atStart => exact ⟨0, by omega, rfl, Lib.hid (fun j hj => by omega), by (repeat (first | exact Below.refl _ _ | refine Below.setCell ?_ (by first | (simp; done) | (simp; omega) | omega) _ | refine belowN ?_ _ | refine Below.drew ?_ | refine Below.alloc ?_ (by first | (simp; done) | (simp; omega) | omega) _ | refine Below.trans ?_ (Below.mono (by assumption) (by first | (simp; done) | (simp; omega) | omega))))⟩
    case round =>
      obtain ⟨k, hk, rfl, hall, hbw⟩ := hrel
      by_cases hlt : k < zs.length
      · obtain ⟨b, off, rfl, H1⟩ := H0.out (by omega)
        obtain ⟨b2, off2, rfl, H3⟩ := H2.out (by have := HL.out; omega)
        have c0 := cell_below hbw (H1 k 0 hlt (by omega))
        have d0 := cell_below hbw (H3 k 0 (by have := HL.out; omega) (by omega))
        have c1 := cell_below hbw (H1 k 1 hlt (by omega))
        have d1 := cell_below hbw (H3 k 1 (by have := HL.out; omega) (by omega))
        simp at c0 d0 c1 d1
        obtain ⟨so, scap, hs, hs1⟩ := (HS.out k hlt).below hbw
        have HI : Hid (Ints wr (.slice so (tS zs k).length scap) (tS zs k)) := Lib.hid ⟨so, scap, rfl, hs1⟩
        obtain ⟨so2, scap2, hs2, hs3⟩ := (HS2.out k (by have := HL.out; omega)).below hbw
        have HJ : Hid (Ints wr (.slice so2 (tS ys k).length scap2) (tS ys k)) := Lib.hid ⟨so2, scap2, rfl, hs3⟩
        rw [hs] at c1
        rw [hs2] at d1
        have sw := hbw.size
        have hd0 := akeep (o := .cells #[.string (tN zs k), .slice so (tS zs k).length scap] 73) d0
        have hd1 := akeep (o := .cells #[.string (tN zs k), .slice so (tS zs k).length scap] 73) d1
        clear H1 H3 hs hs1 hs2 hs3
        cases hst : sameTl (tN zs k) (tN ys k) (tS zs k) (tS ys k)
        · have K := Lib.hid (sameT_no (a := zs) (b := ys) fun h => by rw [sameTl_yes (by rw [h]) (by rw [h])] at hst; exact absurd hst (by simp))
          go_wp2_with fail
          refine (sameTile_any (tN zs k) (tN ys k) _ _ (tS zs k) (tS ys k) _ (HI.out.below (by (repeat (first | exact Below.refl _ _ | refine Below.setCell ?_ (by first | (simp; done) | (simp; omega) | omega) _ | refine belowN ?_ _ | refine Below.drew ?_ | refine Below.alloc ?_ (by first | (simp; done) | (simp; omega) | omega) _ | refine Below.trans ?_ (Below.mono (by assumption) (by first | (simp; done) | (simp; omega) | omega)))))) (HJ.out.below (by (repeat (first | exact Below.refl _ _ | refine Below.setCell ?_ (by first | (simp; done) | (simp; omega) | omega) _ | refine belowN ?_ _ | refine Below.drew ?_ | refine Below.alloc ?_ (by first | (simp; done) | (simp; omega) | omega) _ | refine Below.trans ?_ (Below.mono (by assumption) (by first | (simp; done) | (simp; omega) | omega))))))).mono ?_
          rintro e w1 ⟨rfl, hb1⟩
          rw [hst]
          go_wp2
          go_ret
          exact ⟨ret_bool (by rw [K.out]), by (repeat (first | exact Below.refl _ _ | refine Below.setCell ?_ (by first | (simp; done) | (simp; omega) | omega) _ | refine belowN ?_ _ | refine Below.drew ?_ | refine Below.alloc ?_ (by first | (simp; done) | (simp; omega) | omega) _ | refine Below.trans ?_ (Below.mono (by assumption) (by first | (simp; done) | (simp; omega) | omega))))⟩
        · have HE : Hid (tN zs k = tN ys k ∧ tS zs k = tS ys k) := by
            by_cases h : tN zs k = tN ys k ∧ tS zs k = tS ys k
            · exact h
            · rw [sameTl_no h] at hst; exact absurd hst (by simp)
          go_wp2_with fail
          refine (sameTile_any (tN zs k) (tN ys k) _ _ (tS zs k) (tS ys k) _ (HI.out.below (by (repeat (first | exact Below.refl _ _ | refine Below.setCell ?_ (by first | (simp; done) | (simp; omega) | omega) _ | refine belowN ?_ _ | refine Below.drew ?_ | refine Below.alloc ?_ (by first | (simp; done) | (simp; omega) | omega) _ | refine Below.trans ?_ (Below.mono (by assumption) (by first | (simp; done) | (simp; omega) | omega)))))) (HJ.out.below (by (repeat (first | exact Below.refl _ _ | refine Below.setCell ?_ (by first | (simp; done) | (simp; omega) | omega) _ | refine belowN ?_ _ | refine Below.drew ?_ | refine Below.alloc ?_ (by first | (simp; done) | (simp; omega) | omega) _ | refine Below.trans ?_ (Below.mono (by assumption) (by first | (simp; done) | (simp; omega) | omega))))))).mono ?_
          rintro e w1 ⟨rfl, hb1⟩
          rw [hst]
          go_wp2
          go_roundw
          case rel =>
            refine ⟨k + 1, by omega, by go_num, Lib.hid fun j hj => ?_, by (repeat (first | exact Below.refl _ _ | refine Below.setCell ?_ (by first | (simp; done) | (simp; omega) | omega) _ | refine belowN ?_ _ | refine Below.drew ?_ | refine Below.alloc ?_ (by first | (simp; done) | (simp; omega) | omega) _ | refine Below.trans ?_ (Below.mono (by assumption) (by first | (simp; done) | (simp; omega) | omega))))⟩
            by_cases hjk : j < k
            · exact hall.out j hjk
            · obtain rfl : j = k := by omega
              exact HE.out
          case measure => simp [intOf]; omega
      · obtain rfl : k = zs.length := by omega
        have K := Lib.hid (sameT_yes (tl_ext HL.out hall.out))
        go_wp2
        go_ret
        exact ⟨ret_bool (by rw [K.out]), hbw⟩
  · have K := Lib.hid (sameT_no (a := zs) (b := ys) fun h => hlen (by rw [h]))
    have bn : ((zs.length : Int) != (ys.length : Int)) = true := by rw [bne_iff_ne]; omega
    clear hlen
    go_enter Try.func58, Try.ntmps58
    go_wp2
    go_ret
    exact ⟨ret_bool (by rw [K.out]), by (repeat (first | exact Below.refl _ _ | refine Below.setCell ?_ (by first | (simp; done) | (simp; omega) | omega) _ | refine belowN ?_ _ | refine Below.drew ?_ | refine Below.alloc ?_ (by first | (simp; done) | (simp; omega) | omega) _ | refine Below.trans ?_ (Below.mono (by assumption) (by first | (simp; done) | (simp; omega) | omega))))⟩

theorem implSameSet_any (ug ut vg vt : Value) (S R : Set_) (w : World) (hS : SetIn w ug ut S) (hR : SetIn w vg vt R) :
    Calls Try.prog 21 #[.agg #[ug, ut], .agg #[vg, vt]] w fun e w' => e = .returned (.bool (sameS S R)) ∧ Below w.heap.size w w' := by
  have HS := Lib.hid hS
  have HR := Lib.hid hR
  clear hS hR
  cases hg : sameG S.gs R.gs
  · have K : Hid (sameS S R = false) := by unfold sameS; rw [hg]; rfl
    go_enter Try.func21, Try.ntmps21
    go_wp2_with fail
    refine (slicesEqG_any ug vg S.gs R.gs _ (HS.out.g.below (by (repeat (first | exact Below.refl _ _ | refine Below.setCell ?_ (by first | (simp; done) | (simp; omega) | omega) _ | refine belowN ?_ _ | refine Below.drew ?_ | refine Below.alloc ?_ (by first | (simp; done) | (simp; omega) | omega) _ | refine Below.trans ?_ (Below.mono (by assumption) (by first | (simp; done) | (simp; omega) | omega)))))) (HR.out.g.below (by (repeat (first | exact Below.refl _ _ | refine Below.setCell ?_ (by first | (simp; done) | (simp; omega) | omega) _ | refine belowN ?_ _ | refine Below.drew ?_ | refine Below.alloc ?_ (by first | (simp; done) | (simp; omega) | omega) _ | refine Below.trans ?_ (Below.mono (by assumption) (by first | (simp; done) | (simp; omega) | omega))))))).mono ?_
    rintro e w1 ⟨rfl, hb1⟩
    rw [hg]
    go_wp2
    go_ret
    exact ⟨ret_bool (by rw [K.out]), by (repeat (first | exact Below.refl _ _ | refine Below.setCell ?_ (by first | (simp; done) | (simp; omega) | omega) _ | refine belowN ?_ _ | refine Below.drew ?_ | refine Below.alloc ?_ (by first | (simp; done) | (simp; omega) | omega) _ | refine Below.trans ?_ (Below.mono (by assumption) (by first | (simp; done) | (simp; omega) | omega))))⟩
  · have K : Hid (sameS S R = sameT S.ts R.ts) := by unfold sameS; rw [hg]; rfl
    go_enter Try.func21, Try.ntmps21
    go_wp2_with fail
    refine (slicesEqG_any ug vg S.gs R.gs _ (HS.out.g.below (by (repeat (first | exact Below.refl _ _ | refine Below.setCell ?_ (by first | (simp; done) | (simp; omega) | omega) _ | refine belowN ?_ _ | refine Below.drew ?_ | refine Below.alloc ?_ (by first | (simp; done) | (simp; omega) | omega) _ | refine Below.trans ?_ (Below.mono (by assumption) (by first | (simp; done) | (simp; omega) | omega)))))) (HR.out.g.below (by (repeat (first | exact Below.refl _ _ | refine Below.setCell ?_ (by first | (simp; done) | (simp; omega) | omega) _ | refine belowN ?_ _ | refine Below.drew ?_ | refine Below.alloc ?_ (by first | (simp; done) | (simp; omega) | omega) _ | refine Below.trans ?_ (Below.mono (by assumption) (by first | (simp; done) | (simp; omega) | omega))))))).mono ?_
    rintro e w1 ⟨rfl, hb1⟩
    rw [hg]
    obtain ⟨hc1, hf1, hl1, -⟩ := bfull hb1
    have s1 := hb1.size
    simp at s1
    go_wp2_with fail
    refine (slicesEqT_any ut vt S.ts R.ts _ (HS.out.t.below (by (repeat (first | exact Below.refl _ _ | refine Below.setCell ?_ (by first | (simp; done) | (simp; omega) | omega) _ | refine belowN ?_ _ | refine Below.drew ?_ | refine Below.alloc ?_ (by first | (simp; done) | (simp; omega) | omega) _ | refine Below.trans ?_ (Below.mono (by assumption) (by first | (simp; done) | (simp; omega) | omega)))))) (HR.out.t.below (by (repeat (first | exact Below.refl _ _ | refine Below.setCell ?_ (by first | (simp; done) | (simp; omega) | omega) _ | refine belowN ?_ _ | refine Below.drew ?_ | refine Below.alloc ?_ (by first | (simp; done) | (simp; omega) | omega) _ | refine Below.trans ?_ (Below.mono (by assumption) (by first | (simp; done) | (simp; omega) | omega))))))).mono ?_
    rintro e w2 ⟨rfl, hb2⟩
    go_wp2
    go_ret
    exact ⟨ret_bool (by rw [K.out]), by (repeat (first | exact Below.refl _ _ | refine Below.setCell ?_ (by first | (simp; done) | (simp; omega) | omega) _ | refine belowN ?_ _ | refine Below.drew ?_ | refine Below.alloc ?_ (by first | (simp; done) | (simp; omega) | omega) _ | refine Below.trans ?_ (Below.mono (by assumption) (by first | (simp; done) | (simp; omega) | omega))))⟩

end Go.Proofs.Ytfoegoanbppaaaa
