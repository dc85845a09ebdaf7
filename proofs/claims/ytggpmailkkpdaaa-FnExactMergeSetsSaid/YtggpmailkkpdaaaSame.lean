/-
  Equality of lists of numbers, of glues, of tiles and of sets, the model's and the program's. Conditions: each theorem's own.
-/
import Derived.Test.YtggpmailkkpdaaaSetLaw
import Derived.Laws.StructEq
namespace Go.Proofs.Ytggpmailkkpdaaa
open Go.RowKit

theorem ints_ext {a b : List Int} (hl : a.length = b.length) (h : ∀ i, i < a.length → iAt a i = iAt b i) : a = b := by
  apply List.ext_getElem hl
  intro i h1 h2
  have := h i h1
  simpa [iAt, h1, h2] using this
theorem gl_ext {a b : List Gl} (hl : a.length = b.length) (h : ∀ i, i < a.length → gN a i = gN b i ∧ gS a i = gS b i) : a = b := by
  apply List.ext_getElem hl
  intro i h1 h2
  have := h i h1
  simp only [gN, gS, List.getD_eq_getElem?_getD, List.getElem?_eq_getElem h1, List.getElem?_eq_getElem h2, Option.getD_some] at this
  cases ha : a[i]; cases hb : b[i]
  simp_all
theorem tl_ext {a b : List Tl} (hl : a.length = b.length) (h : ∀ i, i < a.length → tN a i = tN b i ∧ tS a i = tS b i) : a = b := by
  apply List.ext_getElem hl
  intro i h1 h2
  have := h i h1
  simp only [tN, tS, List.getD_eq_getElem?_getD, List.getElem?_eq_getElem h1, List.getElem?_eq_getElem h2, Option.getD_some] at this
  cases ha : a[i]; cases hb : b[i]
  simp_all
open Classical in
noncomputable def sameI (a b : List Int) : Bool := decide (a = b)
open Classical in
noncomputable def sameG (a b : List Gl) : Bool := decide (a = b)
open Classical in
noncomputable def sameT (a b : List Tl) : Bool := decide (a = b)
theorem sameI_yes {a b : List Int} (h : a = b) : sameI a b = true := by simp [sameI, h]
theorem sameI_no {a b : List Int} (h : a ≠ b) : sameI a b = false := by simp [sameI, h]
theorem sameG_yes {a b : List Gl} (h : a = b) : sameG a b = true := by simp [sameG, h]
theorem sameG_no {a b : List Gl} (h : a ≠ b) : sameG a b = false := by simp [sameG, h]
theorem sameT_yes {a b : List Tl} (h : a = b) : sameT a b = true := by simp [sameT, h]
theorem sameT_no {a b : List Tl} (h : a ≠ b) : sameT a b = false := by simp [sameT, h]
noncomputable def sameS (S R : Set_) : Bool := sameG S.gs R.gs && sameT S.ts R.ts

/-- w' is w behind some draws. -/
def Drawn (w w' : World) : Prop := ∃ n, w' = w.drewN n
theorem Drawn.refl (w : World) : Drawn w w := ⟨0, rfl⟩
theorem Drawn.more {w w' : World} (h : Drawn w w') (n : Nat) : Drawn w (w'.drewN n) := by
  obtain ⟨m, rfl⟩ := h
  exact ⟨m + n, by rw [World.drewN_drewN]⟩
theorem Drawn.cell {w w' : World} (h : Drawn w w') {a : Addr} {v : Value} (hc : w.cell? a = some v) : w'.cell? a = some v := by
  obtain ⟨m, rfl⟩ := h
  exact hc
theorem Drawn.below {w w' : World} (h : Drawn w w') : Below w.heap.size w w' := by
  obtain ⟨m, rfl⟩ := h
  exact belowN (Below.refl _ _) m

set_option maxHeartbeats 800000 in
theorem l00Same_any (u v : Value) (zs ys : List Int) (w : World) (hu : Ints w u zs) (hv : Ints w v ys) :
    Calls Try.prog 35 #[u, v] w fun e w' => e = .returned (.bool (sameI zs ys)) ∧ Drawn w w' := by
  obtain ⟨ao, cap, rfl, hl, hm, hc⟩ := hu
  obtain ⟨bo, cap2, rfl, hl2, hm2, hc2⟩ := hv
  unfold maxLen at hm hm2
  have H0 := Lib.hid hc
  have H2 := Lib.hid hc2
  clear hc hc2
  by_cases hlen : zs.length = ys.length
  · have HL := Lib.hid hlen
    have e2 : Value.slice bo ys.length cap2 = .slice bo zs.length cap2 := by rw [hlen]
    rw [e2]
    have hl3 : zs.length ≤ cap2 := by omega
    clear hlen e2 hl2
    go_enter Try.func35, Try.ntmps35
    go_wp2_with fail
    go_loopw [5] (fun i wr => ∃ k : Nat, k ≤ zs.length ∧ i = .int .i64 k ∧ Hid (∀ j, j < k → iAt zs j = iAt ys j) ∧ Drawn w wr) (fun i _ => zs.length - (intOf i).toNat)
    case atStart => exact ⟨0, by omega, rfl, Lib.hid (fun j hj => by omega), Drawn.refl w⟩
    case round =>
      obtain ⟨k, hk, rfl, hall, hbw⟩ := hrel
      by_cases hlt : k < zs.length
      · obtain ⟨b, off, rfl, H1⟩ := H0.out (by omega)
        obtain ⟨b2, off2, rfl, H3⟩ := H2.out (by have := HL.out; omega)
        have c0 := hbw.cell (H1 k 0 hlt (by omega))
        have d0 := hbw.cell (H3 k 0 (by have := HL.out; omega) (by omega))
        simp at c0 d0
        clear H1 H3
        by_cases he : iAt zs k = iAt ys k
        · have HE := Lib.hid he
          rw [← he] at d0
          clear he
          go_wp2_with fail
          go_quiet (fail)
          go_wp2
          go_roundw
          case rel =>
            refine ⟨k + 1, by omega, by go_num, Lib.hid fun j hj => ?_, hbw.more _⟩
            by_cases hjk : j < k
            · exact hall.out j hjk
            · obtain rfl : j = k := by omega
              exact HE.out
          case measure => simp [intOf]; omega
        · have K := Lib.hid (sameI_no (a := zs) (b := ys) fun h => he (by rw [h]))
          have bn : (iAt zs k != iAt ys k) = true := by simpa using he
          clear he
          go_wp2_with fail
          go_quiet (fail)
          go_wp2
          go_ret
          exact ⟨ret_bool (by rw [K.out]), hbw.more _⟩
      · obtain rfl : k = zs.length := by omega
        have K := Lib.hid (sameI_yes (ints_ext HL.out hall.out))
        go_wp2
        go_ret
        exact ⟨ret_bool (by rw [K.out]), hbw⟩
  · have K := Lib.hid (sameI_no (a := zs) (b := ys) fun h => hlen (by rw [h]))
    have bn : ((zs.length : Int) != (ys.length : Int)) = true := by rw [bne_iff_ne]; omega
    clear hlen
    go_enter Try.func35, Try.ntmps35
    go_wp2
    go_ret
    exact ⟨ret_bool (by rw [K.out]), Drawn.refl w⟩

open Classical in
noncomputable def sameTl (s t : ByteArray) (zs ys : List Int) : Bool := decide (s = t ∧ zs = ys)
theorem sameTl_yes {s t : ByteArray} {zs ys : List Int} (h : s = t) (h2 : zs = ys) : sameTl s t zs ys = true := by simp [sameTl, h, h2]
theorem sameTl_no {s t : ByteArray} {zs ys : List Int} (h : ¬ (s = t ∧ zs = ys)) : sameTl s t zs ys = false := by unfold sameTl; exact decide_eq_false h

end Go.Proofs.Ytggpmailkkpdaaa
