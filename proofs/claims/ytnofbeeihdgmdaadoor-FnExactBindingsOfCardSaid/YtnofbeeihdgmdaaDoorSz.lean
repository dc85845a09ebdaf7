/-
  The laws' own measure of a tile set: where it says that the set is not too large, no list and no text of it is. Conditions: each theorem's own.
-/
import Derived.Test.YtnofbeeihdgmdaaDoorKeep
import Derived.Test.YtnofbeeihdgmdaaDoorRd
namespace Go.Proofs.YtnofbeeihdgmdaaDoor
open Go.RowKit

theorem szGlue_any (s : ByteArray) (x left : Int) (w : World) (hs : s.size ≤ maxLen) (h0 : 0 ≤ left) (h1 : left ≤ 1048576) :
    Calls Tryd.prog 66 #[.agg #[.string s, .int .i64 x], .int .i64 left] w fun e w' => e = .returned (.int .i64 (if left < s.size then -1 else left - s.size)) ∧ Below w.heap.size w w' := by
  unfold maxLen at hs
  by_cases h : left < s.size
  · rw [if_pos h]
    go_enter Tryd.func66, Tryd.ntmps66
    go_wp2
    go_ret
    exact ⟨rfl, by (repeat (first | exact Below.refl _ _ | refine Below.setCell ?_ (by first | (simp; done) | (simp; omega) | omega) _ | refine belowN ?_ _ | refine Below.drew ?_ | refine Below.alloc ?_ (by first | (simp; done) | (simp; omega) | omega) _ | refine Below.trans ?_ (Below.mono (by assumption) (by first | (simp; done) | (simp; omega) | omega))))⟩
  · rw [if_neg h]
    go_enter Tryd.func66, Tryd.ntmps66
    go_wp2
    go_ret
    exact ⟨rfl, by (repeat (first | exact Below.refl _ _ | refine Below.setCell ?_ (by first | (simp; done) | (simp; omega) | omega) _ | refine belowN ?_ _ | refine Below.drew ?_ | refine Below.alloc ?_ (by first | (simp; done) | (simp; omega) | omega) _ | refine Below.trans ?_ (Below.mono (by assumption) (by first | (simp; done) | (simp; omega) | omega))))⟩

/-- A measure is what is left, from -1 on; where it is not negative the parts are within it. -/
def Left (e : Ending) (ok : Prop) (top : Int) : Prop := ∃ r : Int, e = .returned (.int .i64 r) ∧ (r = -1 ∨ (0 ≤ r ∧ r ≤ top ∧ ok))

theorem gN_ok {gs : List Gl} (ok : ∀ g ∈ gs, g.ok) {k : Nat} (h : k < gs.length) : (gN gs k).size ≤ maxLen ∧ (Lit.int .i64 (gS gs k)).wf = true := by
  have : gs.getD k default ∈ gs := by rw [List.getD_eq_getElem?_getD, List.getElem?_eq_getElem h]; exact List.getElem_mem h
  exact ok _ this
theorem tN_ok {ts : List Tl} (ok : ∀ t ∈ ts, t.ok) {k : Nat} (h : k < ts.length) : (tN ts k).size ≤ maxLen ∧ ∀ z ∈ tS ts k, (Lit.int .i64 z).wf = true := by
  have : ts.getD k default ∈ ts := by rw [List.getD_eq_getElem?_getD, List.getElem?_eq_getElem h]; exact List.getElem_mem h
  exact ok _ this

/-- The first k names take at most so much. -/
def gUpTo (gs : List Gl) (k : Nat) : Prop := ∀ i, i < k → (gN gs i).size ≤ 1048576
theorem gUpTo_step {gs : List Gl} {k : Nat} (h : gUpTo gs k) (hk : (gN gs k).size ≤ 1048576) : gUpTo gs (k + 1) := fun i hi => by
  by_cases h' : i < k
  · exact h i h'
  · obtain rfl : i = k := by omega
    exact hk

set_option maxHeartbeats 400000 in
theorem szGlueS_any (v : Value) (gs : List Gl) (left : Int) (w : World) (hg : Glues w v gs) (ok : ∀ g ∈ gs, g.ok) (h0 : 0 ≤ left) (h1 : left ≤ 1048576) :
    Calls Tryd.prog 37 #[v, .int .i64 left] w fun e w' => Left e (gs.length ≤ 1048576 ∧ gUpTo gs gs.length) left ∧ Below w.heap.size w w' := by
  obtain ⟨ao, cap, rfl, hl, hm, hc⟩ := hg
  unfold maxLen at hm
  by_cases h : left < gs.length
  · go_enter Tryd.func37, Tryd.ntmps37
    go_wp2
    go_ret
    exact ⟨⟨-1, rfl, .inl rfl⟩, by (repeat (first | exact Below.refl _ _ | refine Below.setCell ?_ (by first | (simp; done) | (simp; omega) | omega) _ | refine belowN ?_ _ | refine Below.drew ?_ | refine Below.alloc ?_ (by first | (simp; done) | (simp; omega) | omega) _ | refine Below.trans ?_ (Below.mono (by assumption) (by first | (simp; done) | (simp; omega) | omega))))⟩
  · have hb : decide (left - (gs.length : Int) < 0) = false := by simp; omega
    have H0 := Lib.hid hc
    clear hc
    go_enter Tryd.func37, Tryd.ntmps37
    go_wp2_with fail
    go_loopw [1, 5] (fun l i wr => ∃ (k : Nat) (x : Int), k ≤ gs.length ∧ i = .int .i64 k ∧ l = .int .i64 x ∧ 0 ≤ x ∧ x ≤ left ∧ gUpTo gs k ∧ Below w.heap.size w wr) (fun _ i _ => gs.length - (intOf i).toNat)
    case atStart => exact ⟨0, left - gs.length, by omega, rfl, rfl, by omega, by omega, fun i hi => by omega, Below.refl _ _⟩
    case round =>
      obtain ⟨k, x, hk, rfl, rfl, hx0, hx1, hU, hbw⟩ := hrel
      by_cases hlt : k < gs.length
      · obtain ⟨b, off, rfl, H1⟩ := H0.out (by omega)
        have c0 := cell_below hbw (H1 k 0 hlt (by omega))
        have c1 := cell_below hbw (H1 k 1 hlt (by omega))
        simp at c0 c1
        clear H1
        have hN := (gN_ok ok hlt).1
        by_cases hs : x < (gN gs k).size
        · go_wp2_with fail
          refine (szGlue_any (gN gs k) (gS gs k) x _ hN hx0 (by omega)).mono ?_
          rintro e w1 ⟨rfl, hb1⟩
          rw [if_pos hs]
          go_wp2
          go_ret
          exact ⟨⟨-1, rfl, .inl rfl⟩, hbw.trans (hb1.mono hbw.size)⟩
        · have hb2 : decide (x - ((gN gs k).size : Int) < 0) = false := by simp; omega
          go_wp2_with fail
          refine (szGlue_any (gN gs k) (gS gs k) x _ hN hx0 (by omega)).mono ?_
          rintro e w1 ⟨rfl, hb1⟩
          rw [if_neg (show ¬ x < ((gN gs k).size : Int) by omega)]
          go_wp2
          go_roundw
          case rel => exact ⟨k + 1, x - (gN gs k).size, by omega, by go_num, rfl, by omega, by omega, gUpTo_step hU (by omega), hbw.trans (hb1.mono hbw.size)⟩
          case measure => simp [intOf]; omega
      · obtain rfl : k = gs.length := by omega
        go_wp2
        go_ret
        exact ⟨⟨x, rfl, .inr ⟨hx0, hx1, by omega, hU⟩⟩, hbw⟩

theorem szInt64S_any (ao : Option Addr) (n cap : Nat) (left : Int) (w : World) (hn : n ≤ cap) (hm : cap ≤ maxLen) (h0 : 0 ≤ left) (h1 : left ≤ 1048576) :
    Calls Tryd.prog 97 #[.slice ao n cap, .int .i64 left] w fun e w' => e = .returned (.int .i64 (if left < n then -1 else left - n)) ∧ w = w' := by
  unfold maxLen at hm
  by_cases h : left < n
  · rw [if_pos h]
    go_enter Tryd.func97, Tryd.ntmps97
    go_wp2
    go_ret
    exact ⟨rfl, rfl⟩
  · rw [if_neg h]
    go_enter Tryd.func97, Tryd.ntmps97
    go_wp2
    go_ret
    exact ⟨rfl, rfl⟩

theorem szTile_any (s : ByteArray) (v : Value) (zs : List Int) (left : Int) (w : World) (hs : s.size ≤ maxLen) (hv : Ints w v zs) (h0 : 0 ≤ left) (h1 : left ≤ 1048576) :
    Calls Tryd.prog 67 #[.agg #[.string s, v], .int .i64 left] w fun e w' => e = .returned (.int .i64 (if left < s.size + zs.length then -1 else left - s.size - zs.length)) ∧ Below w.heap.size w w' := by
  obtain ⟨ao, cap, rfl, hl, hm, -⟩ := hv
  have hm' := hm
  unfold maxLen at hs hm'
  by_cases h : left < s.size
  · rw [if_pos (by omega)]
    go_enter Tryd.func67, Tryd.ntmps67
    go_wp2
    go_ret
    exact ⟨rfl, by (repeat (first | exact Below.refl _ _ | refine Below.setCell ?_ (by first | (simp; done) | (simp; omega) | omega) _ | refine belowN ?_ _ | refine Below.drew ?_ | refine Below.alloc ?_ (by first | (simp; done) | (simp; omega) | omega) _ | refine Below.trans ?_ (Below.mono (by assumption) (by first | (simp; done) | (simp; omega) | omega))))⟩
  · have hb : decide (left - (s.size : Int) < 0) = false := by simp; omega
    by_cases h2 : left - s.size < zs.length
    · rw [if_pos (by omega)]
      go_enter Tryd.func67, Tryd.ntmps67
      go_wp2_with fail
      refine (szInt64S_any ao zs.length cap _ _ hl hm (by omega) (by omega)).mono ?_
      rintro e w1 ⟨rfl, rfl⟩
      rw [if_pos h2]
      go_wp2
      go_ret
      exact ⟨rfl, by (repeat (first | exact Below.refl _ _ | refine Below.setCell ?_ (by first | (simp; done) | (simp; omega) | omega) _ | refine belowN ?_ _ | refine Below.drew ?_ | refine Below.alloc ?_ (by first | (simp; done) | (simp; omega) | omega) _ | refine Below.trans ?_ (Below.mono (by assumption) (by first | (simp; done) | (simp; omega) | omega))))⟩
    · have hb3 : decide (left - (s.size : Int) - (zs.length : Int) < 0) = false := by simp; omega
      rw [if_neg (by omega)]
      go_enter Tryd.func67, Tryd.ntmps67
      go_wp2_with fail
      refine (szInt64S_any ao zs.length cap _ _ hl hm (by omega) (by omega)).mono ?_
      rintro e w1 ⟨rfl, rfl⟩
      rw [if_neg (show ¬ left - (s.size : Int) < (zs.length : Int) by omega)]
      go_wp2
      go_ret
      exact ⟨rfl, by (repeat (first | exact Below.refl _ _ | refine Below.setCell ?_ (by first | (simp; done) | (simp; omega) | omega) _ | refine belowN ?_ _ | refine Below.drew ?_ | refine Below.alloc ?_ (by first | (simp; done) | (simp; omega) | omega) _ | refine Below.trans ?_ (Below.mono (by assumption) (by first | (simp; done) | (simp; omega) | omega))))⟩

/-- The first k tiles' names and sides take at most so much. -/
def tUpTo (ts : List Tl) (k : Nat) : Prop := ∀ i, i < k → (tN ts i).size ≤ 1048576 ∧ (tS ts i).length ≤ 1048576
theorem tUpTo_step {ts : List Tl} {k : Nat} (h : tUpTo ts k) (hk : (tN ts k).size ≤ 1048576 ∧ (tS ts k).length ≤ 1048576) : tUpTo ts (k + 1) := fun i hi => by
  by_cases h' : i < k
  · exact h i h'
  · obtain rfl : i = k := by omega
    exact hk

set_option maxHeartbeats 400000 in
theorem szTileS_any (v : Value) (ts : List Tl) (left : Int) (w : World) (hg : Tiles w v ts) (ok : ∀ t ∈ ts, t.ok) (h0 : 0 ≤ left) (h1 : left ≤ 1048576) :
    Calls Tryd.prog 38 #[v, .int .i64 left] w fun e w' => Left e (ts.length ≤ 1048576 ∧ tUpTo ts ts.length) left ∧ Below w.heap.size w w' := by
  obtain ⟨sv, ⟨ao, cap, rfl, hl, hm, hc⟩, hsv⟩ := hg
  unfold maxLen at hm
  by_cases h : left < ts.length
  · go_enter Tryd.func38, Tryd.ntmps38
    go_wp2
    go_ret
    exact ⟨⟨-1, rfl, .inl rfl⟩, by (repeat (first | exact Below.refl _ _ | refine Below.setCell ?_ (by first | (simp; done) | (simp; omega) | omega) _ | refine belowN ?_ _ | refine Below.drew ?_ | refine Below.alloc ?_ (by first | (simp; done) | (simp; omega) | omega) _ | refine Below.trans ?_ (Below.mono (by assumption) (by first | (simp; done) | (simp; omega) | omega))))⟩
  · have hb : decide (left - (ts.length : Int) < 0) = false := by simp; omega
    have H0 := Lib.hid hc
    have HS := Lib.hid hsv
    clear hc hsv
    go_enter Tryd.func38, Tryd.ntmps38
    go_wp2_with fail
    go_loopw [1, 5] (fun l i wr => ∃ (k : Nat) (x : Int), k ≤ ts.length ∧ i = .int .i64 k ∧ l = .int .i64 x ∧ 0 ≤ x ∧ x ≤ left ∧ tUpTo ts k ∧ Below w.heap.size w wr) (fun _ i _ => ts.length - (intOf i).toNat)
    case atStart => exact ⟨0, left - ts.length, by omega, rfl, rfl, by omega, by omega, fun i hi => by omega, Below.refl _ _⟩
    case round =>
      obtain ⟨k, x, hk, rfl, rfl, hx0, hx1, hU, hbw⟩ := hrel
      by_cases hlt : k < ts.length
      · obtain ⟨b, off, rfl, H1⟩ := H0.out (by omega)
        have c0 := cell_below hbw (H1 k 0 hlt (by omega))
        have c1 := cell_below hbw (H1 k 1 hlt (by omega))
        simp at c0 c1
        clear H1
        have hN := (tN_ok ok hlt).1
        have hI := Lib.hid ((HS.out k hlt).below hbw)
        by_cases hs : x < (tN ts k).size + (tS ts k).length
        · go_wp2_with fail
          refine (szTile_any (tN ts k) (sv k) (tS ts k) x _ hN hI.out hx0 (by omega)).mono ?_
          rintro e w1 ⟨rfl, hb1⟩
          rw [if_pos hs]
          go_wp2
          go_ret
          exact ⟨⟨-1, rfl, .inl rfl⟩, hbw.trans (hb1.mono hbw.size)⟩
        · have hb2 : decide (x - ((tN ts k).size : Int) - ((tS ts k).length : Int) < 0) = false := by simp; omega
          go_wp2_with fail
          refine (szTile_any (tN ts k) (sv k) (tS ts k) x _ hN hI.out hx0 (by omega)).mono ?_
          rintro e w1 ⟨rfl, hb1⟩
          rw [if_neg (show ¬ x < ((tN ts k).size : Int) + ((tS ts k).length : Int) by omega)]
          go_wp2
          go_roundw
          case rel => exact ⟨k + 1, x - (tN ts k).size - (tS ts k).length, by omega, by go_num, rfl, by omega, by omega, tUpTo_step hU (by omega), hbw.trans (hb1.mono hbw.size)⟩
          case measure => simp [intOf]; omega
      · obtain rfl : k = ts.length := by omega
        go_wp2
        go_ret
        exact ⟨⟨x, rfl, .inr ⟨hx0, hx1, by omega, hU⟩⟩, hbw⟩

/-- A set: its glues and its tiles. -/
structure Set_ where
  gs : List Gl
  ts : List Tl
/-- The two slices of a set of tiles, as they read. -/
structure SetIn (w : World) (vg vt : Value) (S : Set_) : Prop where
  g : Glues w vg S.gs
  t : Tiles w vt S.ts
theorem SetIn.below {w w1 : World} {vg vt : Value} {S : Set_} (h : SetIn w vg vt S) (hb : Below w.heap.size w w1) : SetIn w1 vg vt S := ⟨h.g.below hb, h.t.below hb⟩
/-- Its texts and numbers are those of values. -/
structure Set_.ok (S : Set_) : Prop where
  g : ∀ g ∈ S.gs, g.ok
  t : ∀ t ∈ S.ts, t.ok
/-- No list and no text of it is longer than the laws' measure lets it. -/
structure Set_.small (S : Set_) : Prop where
  gl : S.gs.length ≤ 1048576
  gn : gUpTo S.gs S.gs.length
  tl : S.ts.length ≤ 1048576
  tn : tUpTo S.ts S.ts.length

theorem szTileSet_any (vg vt : Value) (S : Set_) (left : Int) (w : World) (hS : SetIn w vg vt S) (ok : S.ok) (h0 : 0 ≤ left) (h1 : left ≤ 1048576) :
    Calls Tryd.prog 9 #[.agg #[vg, vt], .int .i64 left] w fun e w' => Left e S.small left ∧ Below w.heap.size w w' := by
  go_enter Tryd.func9, Tryd.ntmps9
  go_wp2_with fail
  refine (szGlueS_any vg S.gs left _ (hS.g.below (by (repeat (first | exact Below.refl _ _ | refine Below.setCell ?_ (by first | (simp; done) | (simp; omega) | omega) _ | refine belowN ?_ _ | refine Below.drew ?_ | refine Below.alloc ?_ (by first | (simp; done) | (simp; omega) | omega) _ | refine Below.trans ?_ (Below.mono (by assumption) (by first | (simp; done) | (simp; omega) | omega)))))) ok.g h0 h1).mono ?_
  rintro e w1 ⟨⟨r, rfl, hr⟩, hb1⟩
  rcases hr with rfl | ⟨hr0, hr1, hl, hn⟩
  · go_wp2
    go_ret
    exact ⟨⟨-1, rfl, .inl rfl⟩, by (repeat (first | exact Below.refl _ _ | refine Below.setCell ?_ (by first | (simp; done) | (simp; omega) | omega) _ | refine belowN ?_ _ | refine Below.drew ?_ | refine Below.alloc ?_ (by first | (simp; done) | (simp; omega) | omega) _ | refine Below.trans ?_ (Below.mono (by assumption) (by first | (simp; done) | (simp; omega) | omega))))⟩
  · have hbb := bcell hb1
    have s1 := hb1.size
    simp at s1
    go_wp2_with fail
    refine (szTileS_any vt S.ts r _ (hS.t.below (by (repeat (first | exact Below.refl _ _ | refine Below.setCell ?_ (by first | (simp; done) | (simp; omega) | omega) _ | refine belowN ?_ _ | refine Below.drew ?_ | refine Below.alloc ?_ (by first | (simp; done) | (simp; omega) | omega) _ | refine Below.trans ?_ (Below.mono (by assumption) (by first | (simp; done) | (simp; omega) | omega)))))) ok.t hr0 (by omega)).mono ?_
    rintro e w2 ⟨⟨q, rfl, hq⟩, hb2⟩
    have s2 := hb2.size
    rcases hq with rfl | ⟨hq0, hq1, hl2, hn2⟩
    · go_wp2
      go_ret
      exact ⟨⟨-1, rfl, .inl rfl⟩, by (repeat (first | exact Below.refl _ _ | refine Below.setCell ?_ (by first | (simp; done) | (simp; omega) | omega) _ | refine belowN ?_ _ | refine Below.drew ?_ | refine Below.alloc ?_ (by first | (simp; done) | (simp; omega) | omega) _ | refine Below.trans ?_ (Below.mono (by assumption) (by first | (simp; done) | (simp; omega) | omega))))⟩
    · go_wp2
      go_ret
      exact ⟨⟨q, rfl, .inr ⟨hq0, by omega, ⟨hl, hn, hl2, hn2⟩⟩⟩, by (repeat (first | exact Below.refl _ _ | refine Below.setCell ?_ (by first | (simp; done) | (simp; omega) | omega) _ | refine belowN ?_ _ | refine Below.drew ?_ | refine Below.alloc ?_ (by first | (simp; done) | (simp; omega) | omega) _ | refine Below.trans ?_ (Below.mono (by assumption) (by first | (simp; done) | (simp; omega) | omega))))⟩

end Go.Proofs.YtnofbeeihdgmdaaDoor
