/-
  Lists of texts: how they read, in memory of a call's own, and the laws' comparison and marks of them. Conditions: each theorem's own.
-/
import Derived.Test.YtggpmailkkpdaaaDoorMark
namespace Go.Proofs.YtggpmailkkpdaaaDoor
open Go.RowKit

/-- Text i of a list. -/
def wAt (xs : List ByteArray) (i : Nat) : ByteArray := xs.getD i ⟨#[]⟩
/-- v is a slice of these texts. -/
def Strs (w : World) (v : Value) (xs : List ByteArray) : Prop := Sl w 1 v xs.length fun i _ => .string (wAt xs i)
theorem Strs.below {w w1 : World} {v : Value} {xs : List ByteArray} (h : Strs w v xs) (hb : Below w.heap.size w w1) : Strs w1 v xs := Sl.below h hb
/-- .. in block g, to be written. -/
def OwnW (w : World) (g : Nat) (v : Value) (xs : List ByteArray) : Prop :=
  (v = .slice none 0 0 ∧ xs.length = 0) ∨ ∃ cap f, v = .slice (some ⟨g, 0, none⟩) xs.length cap ∧ xs.length ≤ cap ∧ cap ≤ maxLen ∧ w.rowIs g 9 cap f ∧ ∀ i, i < xs.length → f i = .string (wAt xs i)
theorem OwnW.strs {w : World} {g : Nat} {v : Value} {xs : List ByteArray} (h : OwnW w g v xs) : Strs w v xs := by
  rcases h with ⟨rfl, h0⟩ | ⟨cap, f, rfl, hl, hm, hr, hf⟩
  · exact ⟨none, 0, by rw [h0], by omega, by unfold maxLen; omega, fun h => by omega⟩
  · refine ⟨_, cap, rfl, hl, hm, fun _ => ⟨g, 0, rfl, fun i j hi hj => ?_⟩⟩
    obtain rfl : j = 0 := by omega
    have := hr.cell (i := i) (by omega)
    rw [hf i hi] at this
    simpa using this
theorem OwnW.keep {w w1 : World} {g lo hi : Nat} {v : Value} {xs : List ByteArray} (h : OwnW w g v xs) (hw : Within lo hi w w1) (ho : g < lo ∨ hi ≤ g) : OwnW w1 g v xs := by
  rcases h with h | ⟨cap, f, h1, h2, h3, h4, h5⟩
  · exact .inl h
  · exact .inr ⟨cap, f, h1, h2, h3, hw.rowIs h4 ho, h5⟩
theorem OwnW.below {w w1 : World} {g : Nat} {v : Value} {xs : List ByteArray} (h : OwnW w g v xs) (hb : Below w.heap.size w w1) : OwnW w1 g v xs :=
  h.keep (Within.of (lo := 0) (hi := 0) hb) (.inr (Nat.zero_le _))
theorem OwnW.of_row {w : World} {base : Nat} {v : Value} {xs : List ByteArray} (h : w.ownsRow base 9 1 v xs.length (xs.map Value.string)) : ∃ b, base ≤ b ∧ OwnW w b v xs := by
  obtain ⟨-, ⟨rfl, h0⟩ | ⟨g, cap, cur, rfl, hg, hh, hl, hm, hs, ht⟩⟩ := h
  · exact ⟨base, Nat.le_refl _, .inl ⟨rfl, h0⟩⟩
  · refine ⟨g, hg, .inr ⟨cap, fun j => cur.getD j undef, rfl, hl, hm, ⟨cur, hh, by omega, fun i hi => by show cur[i]? = some (cur.getD i undef); rw [Array.getD_eq_getD_getElem?, Array.getElem?_eq_getElem (show i < cur.size by omega)]; rfl⟩, fun i hi => ?_⟩⟩
    have h1 : (cur.toList.take (xs.length * 1))[i]? = (xs.map Value.string)[i]? := by rw [ht]
    rw [List.getElem?_take, if_pos (by omega)] at h1
    have h2 : cur[i]? = some (.string (wAt xs i)) := by
      rw [← Array.getElem?_toList, h1]
      simp [wAt, hi]
    show cur.getD i undef = _
    rw [Array.getD_eq_getD_getElem?, h2]
    rfl

set_option maxHeartbeats 400000 in
theorem eqStringS_yes (u v : Value) (xs : List ByteArray) (w : World) (hu : Strs w u xs) (hv : Strs w v xs) :
    Calls Tryd.prog 9 #[u, v] w fun e w' => e = .returned (.bool true) ∧ Below w.heap.size w w' := by
  obtain ⟨ao, cap, rfl, hl, hm, hc⟩ := hu
  obtain ⟨bo, cap2, rfl, hl2, hm2, hc2⟩ := hv
  unfold maxLen at hm hm2
  have H0 := Lib.hid hc
  have H2 := Lib.hid hc2
  clear hc hc2
  go_enter Tryd.func9, Tryd.ntmps9
  go_wp2_with fail
  go_loopw [5] (fun i wr => ∃ k : Nat, k ≤ xs.length ∧ i = .int .i64 k ∧ Below w.heap.size w wr) (fun i _ => xs.length - (intOf i).toNat)
  case atStart => exact ⟨0, by omega, rfl, by (repeat (first | exact Below.refl _ _ | refine Below.setCell ?_ (by first | (simp; done) | (simp; omega) | omega) _ | refine belowN ?_ _ | refine Below.drew ?_ | refine Below.alloc ?_ (by first | (simp; done) | (simp; omega) | omega) _ | refine Below.trans ?_ (Below.mono (by assumption) (by first | (simp; done) | (simp; omega) | omega))))⟩
  case round =>
    obtain ⟨k, hk, rfl, hbw⟩ := hrel
    by_cases hlt : k < xs.length
    · obtain ⟨b, off, rfl, H1⟩ := H0.out (by omega)
      obtain ⟨b2, off2, rfl, H3⟩ := H2.out (by omega)
      have c0 := cell_below hbw (H1 k 0 hlt (by omega))
      have d0 := cell_below hbw (H3 k 0 hlt (by omega))
      simp at c0 d0
      clear H1 H3
      go_wp2_with fail
      go_quiet (fail)
      go_wp2
      go_roundw
      case rel => exact ⟨k + 1, by omega, by go_num, by (repeat (first | exact Below.refl _ _ | refine Below.setCell ?_ (by first | (simp; done) | (simp; omega) | omega) _ | refine belowN ?_ _ | refine Below.drew ?_ | refine Below.alloc ?_ (by first | (simp; done) | (simp; omega) | omega) _ | refine Below.trans ?_ (Below.mono (by assumption) (by first | (simp; done) | (simp; omega) | omega))))⟩
      case measure => simp [intOf]; omega
    · obtain rfl : k = xs.length := by omega
      go_wp2
      go_ret
      exact ⟨rfl, hbw⟩

/-- The marks from k on, as texts. -/
def mWs (k n : Nat) : List ByteArray := (List.range n).map fun i => mtxt (k + i)
theorem mWs_len (k n : Nat) : (mWs k n).length = n := by simp [mWs]
theorem mWs_at (k n : Nat) {i : Nat} (h : i < n) : wAt (mWs k n) i = mtxt (k + i) := by simp [wAt, mWs, h]

set_option maxHeartbeats 800000 in
theorem markStringS_any (g : Nat) (v : Value) (xs : List ByteArray) (k : Nat) (w : World) (h : OwnW w g v xs) (hz : xs.length ≤ 2097152) (h1 : 1 ≤ k) (h2 : k ≤ 1125899906842624) :
    Calls Tryd.prog 10 #[v, .int .i64 (k : Int)] w fun e w' => e = .returned (.int .i64 ((k + xs.length : Nat) : Int)) ∧ OwnW w' g v (mWs k xs.length) ∧ Within g (g + 1) w w' := by
  rcases h with ⟨rfl, h0⟩ | ⟨cap, f, rfl, hl, hm, hr, hf⟩
  · rw [h0]
    go_enter Tryd.func10, Tryd.ntmps10
    go_wp2_with fail
    refine wp_loop_rounds 1 ?_
    rw [rounds_succ]
    go_wp2
    go_ret
    exact ⟨rfl, .inl ⟨rfl, by simp [mWs]⟩, Within.refl _ _ _⟩
  · unfold maxLen at hm
    have HR := Lib.hid hr
    clear hr hf
    go_enter Tryd.func10, Tryd.ntmps10
    go_wp2_with fail
    go_loopw [1, 5] (fun m i wr => ∃ j : Nat, j ≤ xs.length ∧ i = .int .i64 j ∧ m = .int .i64 ((k + j : Nat) : Int) ∧ (∃ f', wr.rowIs g 9 cap f' ∧ ∀ q, q < j → f' q = .string (mtxt (k + q))) ∧ Within g (g + 1) w wr) (fun _ i _ => xs.length - (intOf i).toNat)
    case atStart => exact ⟨0, by omega, rfl, rfl, ⟨f, HR.out, fun q hq => by omega⟩, Within.refl _ _ _⟩
    case round =>
      obtain ⟨j, hj, rfl, rfl, ⟨f', hr', hf'⟩, hwi⟩ := hrel
      by_cases hlt : j < xs.length
      · have HF := Lib.hid hf'
        have HR' := Lib.hid hr'
        have hgl : g < wr.heap.size := hr'.lt
        clear hf' hr'
        go_wp2_with fail
        refine (markText_any (k + j) _ (by omega) (by omega)).mono ?_
        rintro e w1 ⟨rfl, hb1⟩
        have G1 := Lib.hid (HR'.out.of_block (hb1.block _ hgl))
        have c0 := G1.out.cell (i := j) (by omega)
        have z0 := G1.out.frozen j
        have HB1 := Lib.hid hb1
        clear hb1
        go_wp2
        go_roundw
        case rel =>
          refine ⟨j + 1, by omega, by go_num, by go_num, ⟨_, G1.out.set j _, fun q hq => ?_⟩, (hwi.trans (Within.of HB1.out)).trans (Within.set1 g w1 j _)⟩
          by_cases hqj : q = j
          · subst hqj; simp
          · rw [if_neg hqj]; exact HF.out q (by omega)
        case measure => simp [intOf]; omega
      · obtain rfl : j = xs.length := by omega
        have HF := Lib.hid hf'
        have HR' := Lib.hid hr'
        clear hf' hr'
        go_wp2
        go_ret
        refine ⟨rfl, .inr ⟨cap, f', by rw [mWs_len], by rw [mWs_len]; exact hl, by unfold maxLen; omega, HR'.out, fun q hq => ?_⟩, hwi⟩
        rw [mWs_len] at hq
        rw [mWs_at _ _ hq]
        exact HF.out q hq

set_option maxHeartbeats 800000 in
theorem heldStringS_yes (v : Value) (k n : Nat) (w : World) (h : Strs w v (mWs k n)) (hz : n ≤ 2097152) (h1 : 1 ≤ k) (h2 : k ≤ 1125899906842624) :
    Calls Tryd.prog 11 #[v, .int .i64 (k : Int)] w fun e w' => e = .returned (.int .i64 ((k + n : Nat) : Int)) ∧ Below w.heap.size w w' := by
  obtain ⟨ao, cap, rfl, hl, hm, hc⟩ := h
  rw [mWs_len] at hl hc ⊢
  unfold maxLen at hm
  have H0 := Lib.hid hc
  clear hc
  go_enter Tryd.func11, Tryd.ntmps11
  go_wp2_with fail
  go_loopw [1, 5] (fun m i wr => ∃ j : Nat, j ≤ n ∧ i = .int .i64 j ∧ m = .int .i64 ((k + j : Nat) : Int) ∧ Below w.heap.size w wr) (fun _ i _ => n - (intOf i).toNat)
  case atStart => exact ⟨0, by omega, rfl, rfl, Below.refl _ _⟩
  case round =>
    obtain ⟨j, hj, rfl, rfl, hbw⟩ := hrel
    by_cases hlt : j < n
    · obtain ⟨b, off, rfl, H1⟩ := H0.out (by omega)
      have c0 := cell_below hbw (H1 j 0 hlt (by omega))
      rw [mWs_at _ _ hlt] at c0
      simp at c0
      clear H1
      have sw := hbw.size
      go_wp2_with fail
      go_region_held3 (fun w' => w'.cell? ⟨b, off + j, none⟩ = some (.string (mtxt (k + j)))) ((((try go_split_ands); (try dsimp only); (repeat' apply And.intro)) <;> (repeat (first | with_reducible assumption | ((with_reducible refine cnew0 ?_); simp; done) | ((with_reducible refine cnew1 ?_); simp; done) | (with_reducible refine akeep ?_) | (with_reducible refine dkeep ?_) | ((with_reducible refine skeep ?_ ?_); rotate_left; (first | ((try dsimp only); omega) | (simp; done) | (simp; omega))) | (with_reducible refine bkeep hb3 ?_)))))
        ((go_at_call 27; refine (markText_any (k + j) _ (by omega) (by omega)).mono ?_; rintro e w1 ⟨rfl, hb3⟩))
      have B1 : Below w.heap.size w w1 := by (repeat (first | exact Below.refl _ _ | refine Below.setCell ?_ (by first | (simp; done) | (simp; omega) | omega) _ | refine belowN ?_ _ | refine Below.drew ?_ | refine Below.alloc ?_ (by first | (simp; done) | (simp; omega) | omega) _ | refine Below.trans ?_ (Below.mono (by assumption) (by first | (simp; done) | (simp; omega) | omega))))
      clear hb3 c0
      go_wp2
      go_roundw
      case rel => exact ⟨j + 1, by omega, by go_num, by go_num, B1⟩
      case measure => simp [intOf]; omega
    · obtain rfl : j = n := by omega
      go_wp2
      go_ret
      exact ⟨rfl, hbw⟩

/-- The mark behind so many texts. -/
def wEnd (n : Nat) : Nat := 1 + n
theorem markStringS_one (g : Nat) (v : Value) (xs : List ByteArray) (w : World) (h : OwnW w g v xs) (hz : xs.length ≤ 2097152) :
    Calls Tryd.prog 10 #[v, .int .i64 1] w fun e w' => e = .returned (.int .i64 (wEnd xs.length : Int)) ∧ OwnW w' g v (mWs 1 xs.length) ∧ Within g (g + 1) w w' :=
  markStringS_any g v xs 1 w h hz (Nat.le_refl _) (by omega)
theorem heldStringS_one (v : Value) (n : Nat) (w : World) (h : Strs w v (mWs 1 n)) (hz : n ≤ 2097152) :
    Calls Tryd.prog 11 #[v, .int .i64 1] w fun e w' => e = .returned (.int .i64 (wEnd n : Int)) ∧ Below w.heap.size w w' :=
  heldStringS_yes v 1 n w h hz (Nat.le_refl _) (by omega)

end Go.Proofs.YtggpmailkkpdaaaDoor
