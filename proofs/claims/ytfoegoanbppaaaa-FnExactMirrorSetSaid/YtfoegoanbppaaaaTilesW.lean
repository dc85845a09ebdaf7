/-
  TilesWith, the model's and the program's: the same numbers, in new memory. Conditions: each theorem's own.
-/
import Derived.Test.YtfoegoanbppaaaaBonds
import Derived.Test.YtfoegoanbppaaaaMark
import Derived.Maps.AppendAt
namespace Go.Proofs.Ytfoegoanbppaaaa
open Go.RowKit

theorem ownsRow_keep {w w1 : World} {base : Nat} {e : TypeId} {size : Nat} {v : Value} {n : Nat} {xs : List Value} (h : w.ownsRow base e size v n xs) (hb : Below w.heap.size w w1) : w1.ownsRow base e size v n xs := by
  obtain ⟨h1, h2⟩ := h
  refine ⟨h1, ?_⟩
  rcases h2 with h2 | ⟨g, cap, cur, h3, h4, h5, h6⟩
  · exact .inl h2
  · exact .inr ⟨g, cap, cur, h3, h4, (hb.block _ (Array.getElem?_eq_some_iff.1 h5).1).trans h5, h6⟩
theorem own_block_ge {w : World} {base : Nat} {e : TypeId} {size : Nat} {v : Value} {n : Nat} {xs : List Value} (h : w.ownsRow base e size v n xs) : ∀ j, v.ownBlock = some j → base ≤ j := by
  intro j hj
  rcases h.2 with ⟨rfl, _⟩ | ⟨g, cap, cur, rfl, hg, _⟩
  · simp [Value.ownBlock] at hj
  · have : g = j := by simpa [Value.ownBlock] using hj
    omega
theorem OwnAt.of_row {w : World} {base : Nat} {v : Value} {zs : List Int} (h : w.ownsRow base 2 1 v zs.length (zs.map (Value.int .i64))) : ∃ b, base ≤ b ∧ OwnAt w b v zs := by
  obtain ⟨-, ⟨rfl, h0⟩ | ⟨g, cap, cur, rfl, hg, hh, hl, hm, hs, ht⟩⟩ := h
  · exact ⟨base, Nat.le_refl _, .inl ⟨rfl, h0⟩⟩
  · refine ⟨g, hg, .inr ⟨cap, fun j => cur.getD j undef, rfl, hl, hm, ⟨cur, hh, by omega, fun i hi => by show cur[i]? = some (cur.getD i undef); rw [Array.getD_eq_getD_getElem?, Array.getElem?_eq_getElem (show i < cur.size by omega)]; rfl⟩, fun i hi => ?_⟩⟩
    have h1 : (cur.toList.take (zs.length * 1))[i]? = (zs.map (Value.int .i64))[i]? := by rw [ht]
    rw [List.getElem?_take, if_pos (by omega)] at h1
    have h2 : cur[i]? = some (.int .i64 (iAt zs i)) := by
      rw [← Array.getElem?_toList, h1]
      simp [iAt, hi]
    show cur.getD i undef = _
    rw [Array.getD_eq_getD_getElem?, h2]
    rfl

/-- The tiles before k with glue g on side m. -/
def twTo (S : Set_) (m : Nat) (g : Int) : Nat → List Int
  | 0 => []
  | k + 1 => if sideZ S k m = g then twTo S m g k ++ [(k : Int)] else twTo S m g k
theorem twTo_len (S : Set_) (m : Nat) (g : Int) (k : Nat) : (twTo S m g k).length ≤ k := by
  induction k with
  | zero => exact Nat.le_refl 0
  | succ k ih =>
    simp only [twTo]
    split
    · simp; omega
    · omega
noncomputable def tw1 (S : Set_) (d g : Int) : List Int := if validB S = true ∧ inB d 0 3 = true ∧ inB g 0 (S.gs.length : Int) = true then twTo S d.toNat g S.ts.length else []
noncomputable def tw2 (S : Set_) (d g : Int) : Int := if validB S = true then (if inB d 0 3 = true ∧ inB g 0 (S.gs.length : Int) = true then 0 else 2) else 1
theorem tw_no {S : Set_} (h : validB S = false) (d g : Int) : tw1 S d g = [] ∧ tw2 S d g = 1 := by simp [tw1, tw2, h]
theorem tw_out {S : Set_} (h : validB S = true) {d g : Int} (h2 : ¬ (inB d 0 3 = true ∧ inB g 0 (S.gs.length : Int) = true)) : tw1 S d g = [] ∧ tw2 S d g = 2 :=
  ⟨by unfold tw1; rw [if_neg (fun x => h2 x.2)], by unfold tw2; rw [if_pos h, if_neg h2]⟩
theorem tw_yes {S : Set_} (h : validB S = true) {d g : Int} (h2 : inB d 0 3 = true ∧ inB g 0 (S.gs.length : Int) = true) : tw1 S d g = twTo S d.toNat g S.ts.length ∧ tw2 S d g = 0 :=
  ⟨by unfold tw1; rw [if_pos ⟨h, h2⟩], by unfold tw2; rw [if_pos h, if_pos h2]⟩
theorem tw1_len (S : Set_) (d g : Int) : (tw1 S d g).length ≤ S.ts.length := by
  unfold tw1
  split
  · exact twTo_len _ _ _ _
  · simp

/-- A call that returns a list of numbers in new memory, and a code. -/
def ListPost (W : World) (zs : List Int) (c : Int) (e : Ending) (w' : World) : Prop := ∃ v b, e = .returned (.tuple #[v, .int .i64 c]) ∧ W.heap.size ≤ b ∧ OwnAt w' b v zs
theorem ListPost.nil {W w' : World} {zs : List Int} {c x : Int} (hz : zs = []) (hc : x = c) : ListPost W zs c (.returned (.tuple #[.slice none 0 0, .int .i64 x])) w' :=
  ⟨_, W.heap.size, by rw [hc], Nat.le_refl _, .inl ⟨rfl, by rw [hz]; rfl⟩⟩

set_option maxHeartbeats 1600000 in
theorem specTilesWith_any (vg vt : Value) (S : Set_) (d g : Int) (w : World) (hS : SetIn w vg vt S) (ok : S.ok) (hs : S.small) :
    Calls Try.prog 30 #[.agg #[vg, vt], .int .i64 d, .int .i64 g] w fun e w' => ListPost w (tw1 S d g) (tw2 S d g) e w' ∧ Below w.heap.size w w' := by
  have HS := Lib.hid hS
  have hgl := hs.gl
  have htl := hs.tl
  obtain ⟨ao, gcap, rfl, hgl2, hgm, -⟩ := hS.g
  unfold maxLen at hgm
  clear hS
  cases hv : validB S
  · have K := Lib.hid (tw_no hv d g)
    go_enter Try.func30, Try.ntmps30
    go_wp2_with fail
    refine (l02Ok_any w.heap.size _ vt S _ ⟨by simp [go_sem], by simp [go_sem]⟩ (HS.out.below (by (repeat (first | exact Below.refl _ _ | refine Below.setCell ?_ (by first | (simp; done) | (simp; omega) | omega) _ | refine belowN ?_ _ | refine Below.drew ?_ | refine Below.alloc ?_ (by first | (simp; done) | (simp; omega) | omega) _ | refine Below.trans ?_ (Below.mono (by assumption) (by first | (simp; done) | (simp; omega) | omega)))))) ok hs).mono ?_
    rintro e w1 ⟨rfl, hb1⟩
    go_wp2_with fail
    go_ret2
    exact ⟨ListPost.nil K.out.1 K.out.2.symm, by (repeat (first | exact Below.refl _ _ | refine Below.setCell ?_ (by first | (simp; done) | (simp; omega) | omega) _ | refine belowN ?_ _ | refine Below.drew ?_ | refine Below.alloc ?_ (by first | (simp; done) | (simp; omega) | omega) _ | refine Below.trans ?_ (Below.mono (by assumption) (by first | (simp; done) | (simp; omega) | omega))))⟩
  · have V := Lib.hid (validB_iff.1 hv)
    by_cases hin : inB d 0 3 = true ∧ inB g 0 (S.gs.length : Int) = true
    · have K := Lib.hid (tw_yes hv hin)
      obtain ⟨h2, h3⟩ := hin
      have r2 := inB_iff.1 h2
      obtain ⟨m, rfl⟩ : ∃ m : Nat, d = (m : Int) := ⟨d.toNat, by omega⟩
      have hm : m < 4 := by omega
      obtain ⟨i0, hi, hz0, hz1, hz2⟩ := info_parts info_i64
      go_enter Try.func30, Try.ntmps30
      go_wp2_with fail
      refine (l02Ok_any w.heap.size _ vt S _ ⟨by simp [go_sem], by simp [go_sem]⟩ (HS.out.below (by (repeat (first | exact Below.refl _ _ | refine Below.setCell ?_ (by first | (simp; done) | (simp; omega) | omega) _ | refine belowN ?_ _ | refine Below.drew ?_ | refine Below.alloc ?_ (by first | (simp; done) | (simp; omega) | omega) _ | refine Below.trans ?_ (Below.mono (by assumption) (by first | (simp; done) | (simp; omega) | omega)))))) ok hs).mono ?_
      rintro e w1 ⟨rfl, hb1⟩
      have B1 : Below w.heap.size w w1 := by (repeat (first | exact Below.refl _ _ | refine Below.setCell ?_ (by first | (simp; done) | (simp; omega) | omega) _ | refine belowN ?_ _ | refine Below.drew ?_ | refine Below.alloc ?_ (by first | (simp; done) | (simp; omega) | omega) _ | refine Below.trans ?_ (Below.mono (by assumption) (by first | (simp; done) | (simp; omega) | omega))))
      have s1 := hb1.size
      simp at s1
      have A1 := (At.new w _ vt 31).below hb1
      obtain ⟨q0, q1⟩ := A1
      clear hb1
      go_wp2_with (first
        | (go_at_call 66; refine (l01Dir_any _ _).mono ?_; rintro e w' ⟨rfl, rfl⟩; rw [h2])
        | (go_at_call 74; refine (l00In_any _ _ _ _).mono ?_; rintro e w' ⟨rfl, rfl⟩; rw [h3]))
      have C1 : Below (w.heap.size + 1) w1 (w1.alloc (.cells #[] 2)) := by (repeat (first | exact Below.refl _ _ | refine Below.setCell ?_ (by first | (simp; done) | (simp; omega) | omega) _ | refine belowN ?_ _ | refine Below.drew ?_ | refine Below.alloc ?_ (by first | (simp; done) | (simp; omega) | omega) _ | refine Below.trans ?_ (Below.mono (by assumption) (by first | (simp; done) | (simp; omega) | omega))))
      have HV := Lib.hid V.out
      have HT := Lib.hid HS.out.t
      go_loopw [8, 9] (fun v i wr => ∃ (k : Nat) (x : Value), k ≤ S.ts.length ∧ i = .int .i64 k ∧ x = v ∧ wr.ownsRow (w.heap.size + 1) 2 1 x (twTo S m g k).length ((twTo S m g k).map (Value.int .i64)) ∧ Below w.heap.size w wr ∧ Below (w.heap.size + 1) w1 wr) (fun _ i _ => S.ts.length - (intOf i).toNat)
      case atStart => exact ⟨0, _, by omega, rfl, rfl, World.ownsRow_lit _ _ _ (by omega) (by unfold maxLen; omega) rfl, by (repeat (first | exact Below.refl _ _ | refine Below.setCell ?_ (by first | (simp; done) | (simp; omega) | omega) _ | refine belowN ?_ _ | refine Below.drew ?_ | refine Below.alloc ?_ (by first | (simp; done) | (simp; omega) | omega) _ | refine Below.trans ?_ (Below.mono (by assumption) (by first | (simp; done) | (simp; omega) | omega)))), C1⟩
      case round =>
        clear C1
        obtain ⟨k, x, hk, rfl, rfl, hown, hbw, hb1⟩ := hrel
        have k0 := (hb1.cell (p := ⟨w.heap.size, 0, none⟩) (by simp)).trans q0
        have k1 := (hb1.cell (p := ⟨w.heap.size, 1, none⟩) (by simp)).trans q1
        have sw := hbw.size
        have s2 := hb1.size
        have hl := twTo_len S m g k
        by_cases hlt : k < S.ts.length
        · obtain ⟨b, off, cap, hvt, hl2, hmx, hc⟩ := tiles_open HT.out (by omega)
          obtain ⟨b2, o2, c, -, c1, hc4, hcm, hcc⟩ := hc k hlt (HV.out.sides hlt)
          have c1 := cell_below hbw c1
          have c2 := cell_below hbw (hcc m hm)
          rw [hvt] at k1
          unfold maxLen at hmx hcm
          clear hc hcc hvt
          by_cases he : sideZ S k m = g
          · have HE : Hid (twTo S m g (k + 1) = twTo S m g k ++ [(k : Int)]) := by show (if sideZ S k m = g then _ else _) = _; rw [if_pos he]
            have c2' : wr.cell? ⟨b2, o2 + m, none⟩ = some (.int .i64 g) := by rw [← he]; exact c2
            clear c2 he
            go_wp2_with (at_builtin; refine wpList_append_own _ rfl _ _ 44 rfl (w.heap.size + 1) 2 i0 (.int .i64 0) 1 8 Try.underlying44 hi hz0 hz1 hz2 rfl (by decide) _ _ _ rfl (hown.alloc _) ⟨wr.heap.size, 0, none⟩ 1 1 [.int .i64 (k : Int)] rfl rfl (cell_one_new _ _ _) (ints_oneCell .i64 [(k : Int)]) (maxLen_of (by omega)) (by omega) (by simp; omega) ?_; intro v' w2 hown2 hgrow2 _)
            go_roundw
            case rel =>
              refine ⟨k + 1, v', by omega, by go_num, rfl, ?_, (hbw.alloc sw _).grown hgrow2 (by simp; omega) (fun j hj => by have := own_block_ge hown j hj; omega), (hb1.alloc (by omega) _).grown hgrow2 (by simp; omega) (fun j hj => own_block_ge hown j hj)⟩
              rw [HE.out]
              simpa using hown2
            case measure => simp [intOf]; omega
          · have HE : Hid (twTo S m g (k + 1) = twTo S m g k) := by show (if sideZ S k m = g then _ else _) = _; rw [if_neg he]
            have bn : (sideZ S k m == g) = false := by simpa using he
            have c2' : wr.cell? ⟨b2, o2 + m, none⟩ = some (.int .i64 (sideZ S k m)) := c2
            clear c2 he
            go_wp2_with fail
            go_roundw
            case rel => exact ⟨k + 1, x, by omega, by go_num, rfl, by rw [HE.out]; exact hown, hbw, hb1⟩
            case measure => simp [intOf]; omega
        · obtain rfl : k = S.ts.length := by omega
          obtain ⟨sv, ⟨bo, bcap, hvt, hl2, hmx, -⟩, -⟩ := HT.out
          rw [hvt] at k1
          unfold maxLen at hmx
          have HR := Lib.hid (OwnAt.of_row hown)
          clear hvt
          go_wp2_with fail
          go_ret2
          obtain ⟨b, hb, hob⟩ := HR.out
          exact ⟨⟨x, b, by rw [K.out.2]; rfl, by omega, by rw [K.out.1]; exact hob⟩, hbw⟩
    · have K := Lib.hid (tw_out hv hin)
      cases h2 : inB d 0 3 <;> cases h3 : inB g 0 (S.gs.length : Int)
      case neg.true.true => exact absurd ⟨h2, h3⟩ hin
      all_goals
        clear hin
        go_enter Try.func30, Try.ntmps30
        go_wp2_with fail
        refine (l02Ok_any w.heap.size _ vt S _ ⟨by simp [go_sem], by simp [go_sem]⟩ (HS.out.below (by (repeat (first | exact Below.refl _ _ | refine Below.setCell ?_ (by first | (simp; done) | (simp; omega) | omega) _ | refine belowN ?_ _ | refine Below.drew ?_ | refine Below.alloc ?_ (by first | (simp; done) | (simp; omega) | omega) _ | refine Below.trans ?_ (Below.mono (by assumption) (by first | (simp; done) | (simp; omega) | omega)))))) ok hs).mono ?_
        rintro e w1 ⟨rfl, hb1⟩
        have B1 : Below w.heap.size w w1 := by (repeat (first | exact Below.refl _ _ | refine Below.setCell ?_ (by first | (simp; done) | (simp; omega) | omega) _ | refine belowN ?_ _ | refine Below.drew ?_ | refine Below.alloc ?_ (by first | (simp; done) | (simp; omega) | omega) _ | refine Below.trans ?_ (Below.mono (by assumption) (by first | (simp; done) | (simp; omega) | omega))))
        obtain ⟨q0, q1⟩ := (At.new w _ vt 31).below hb1
        clear hb1
        go_wp2_with (first
          | (go_at_call 66; refine (l01Dir_any _ _).mono ?_; rintro e w' ⟨rfl, rfl⟩; rw [h2])
          | (go_at_call 74; refine (l00In_any _ _ _ _).mono ?_; rintro e w' ⟨rfl, rfl⟩; rw [h3]))
        go_ret2
        exact ⟨ListPost.nil K.out.1 K.out.2.symm, B1⟩

theorem hasGlue_any (vg vt : Value) (gs : List Gl) (g : Int) (w : World) (hg : Glues w vg gs) (_hn : gs.length ≤ 1048576) :
    Calls Try.prog 75 #[.agg #[vg, vt], .int .i64 g] w fun e w' => e = .returned (.bool (inB g 0 (gs.length : Int))) ∧ Below w.heap.size w w' := by
  obtain ⟨ao, cap, rfl, hl, hm, hc⟩ := hg
  clear hc
  by_cases h0 : 0 ≤ g
  · by_cases h1 : g ≤ gs.length
    · have K : Hid (inB g 0 (gs.length : Int) = true) := inB_yes h0 h1
      go_enter Try.func75, Try.ntmps75
      go_wp2
      go_ret
      exact ⟨ret_bool (by rw [K.out]), by (repeat (first | exact Below.refl _ _ | refine Below.setCell ?_ (by first | (simp; done) | (simp; omega) | omega) _ | refine belowN ?_ _ | refine Below.drew ?_ | refine Below.alloc ?_ (by first | (simp; done) | (simp; omega) | omega) _ | refine Below.trans ?_ (Below.mono (by assumption) (by first | (simp; done) | (simp; omega) | omega))))⟩
    · have K : Hid (inB g 0 (gs.length : Int) = false) := inB_no (by omega)
      go_enter Try.func75, Try.ntmps75
      go_wp2
      go_ret
      exact ⟨ret_bool (by rw [K.out]), by (repeat (first | exact Below.refl _ _ | refine Below.setCell ?_ (by first | (simp; done) | (simp; omega) | omega) _ | refine belowN ?_ _ | refine Below.drew ?_ | refine Below.alloc ?_ (by first | (simp; done) | (simp; omega) | omega) _ | refine Below.trans ?_ (Below.mono (by assumption) (by first | (simp; done) | (simp; omega) | omega))))⟩
  · have K : Hid (inB g 0 (gs.length : Int) = false) := inB_no (by omega)
    go_enter Try.func75, Try.ntmps75
    go_wp2
    go_ret
    exact ⟨ret_bool (by rw [K.out]), by (repeat (first | exact Below.refl _ _ | refine Below.setCell ?_ (by first | (simp; done) | (simp; omega) | omega) _ | refine belowN ?_ _ | refine Below.drew ?_ | refine Below.alloc ?_ (by first | (simp; done) | (simp; omega) | omega) _ | refine Below.trans ?_ (Below.mono (by assumption) (by first | (simp; done) | (simp; omega) | omega))))⟩

set_option maxHeartbeats 1600000 in
theorem implTilesWith_any (vg vt : Value) (S : Set_) (d g : Int) (w : World) (hS : SetIn w vg vt S) (ok : S.ok) (hs : S.small) :
    Calls Try.prog 31 #[.agg #[vg, vt], .int .i64 d, .int .i64 g] w fun e w' => ListPost w (tw1 S d g) (tw2 S d g) e w' ∧ Below w.heap.size w w' := by
  have HS := Lib.hid hS
  have hgl := hs.gl
  have htl := hs.tl
  clear hS
  cases hv : validB S
  · have K := Lib.hid (tw_no hv d g)
    go_enter Try.func31, Try.ntmps31
    go_wp2_with fail
    refine (implValid_any vg vt S _ (HS.out.below (by (repeat (first | exact Below.refl _ _ | refine Below.setCell ?_ (by first | (simp; done) | (simp; omega) | omega) _ | refine belowN ?_ _ | refine Below.drew ?_ | refine Below.alloc ?_ (by first | (simp; done) | (simp; omega) | omega) _ | refine Below.trans ?_ (Below.mono (by assumption) (by first | (simp; done) | (simp; omega) | omega)))))) ok hs).mono ?_
    rintro e w1 ⟨rfl, hb1⟩
    go_wp2_with fail
    go_ret2
    exact ⟨ListPost.nil K.out.1 K.out.2.symm, by (repeat (first | exact Below.refl _ _ | refine Below.setCell ?_ (by first | (simp; done) | (simp; omega) | omega) _ | refine belowN ?_ _ | refine Below.drew ?_ | refine Below.alloc ?_ (by first | (simp; done) | (simp; omega) | omega) _ | refine Below.trans ?_ (Below.mono (by assumption) (by first | (simp; done) | (simp; omega) | omega))))⟩
  · have V := Lib.hid (validB_iff.1 hv)
    by_cases hin : inB d 0 3 = true ∧ inB g 0 (S.gs.length : Int) = true
    · have K := Lib.hid (tw_yes hv hin)
      obtain ⟨h2, h3⟩ := hin
      have r2 := inB_iff.1 h2
      obtain ⟨m, rfl⟩ : ∃ m : Nat, d = (m : Int) := ⟨d.toNat, by omega⟩
      have hm : m < 4 := by omega
      obtain ⟨i0, hi, hz0, hz1, hz2⟩ := info_parts info_i64
      go_enter Try.func31, Try.ntmps31
      go_wp2_with fail
      refine (implValid_any vg vt S _ (HS.out.below (by (repeat (first | exact Below.refl _ _ | refine Below.setCell ?_ (by first | (simp; done) | (simp; omega) | omega) _ | refine belowN ?_ _ | refine Below.drew ?_ | refine Below.alloc ?_ (by first | (simp; done) | (simp; omega) | omega) _ | refine Below.trans ?_ (Below.mono (by assumption) (by first | (simp; done) | (simp; omega) | omega)))))) ok hs).mono ?_
      rintro e w1 ⟨rfl, hb1⟩
      have B1 : Below w.heap.size w w1 := by (repeat (first | exact Below.refl _ _ | refine Below.setCell ?_ (by first | (simp; done) | (simp; omega) | omega) _ | refine belowN ?_ _ | refine Below.drew ?_ | refine Below.alloc ?_ (by first | (simp; done) | (simp; omega) | omega) _ | refine Below.trans ?_ (Below.mono (by assumption) (by first | (simp; done) | (simp; omega) | omega))))
      have s1 := hb1.size
      simp at s1
      have A1 := Lib.hid ((At.new w vg vt 31).below hb1)
      clear hb1
      obtain ⟨q0, q1⟩ := A1.out
      go_wp2_with (go_at_call 69; refine (isDirection_any _ _).mono ?_; rintro e w' ⟨rfl, rfl⟩; rw [h2])
      refine (hasGlue_any vg vt S.gs g _ (HS.out.g.below B1) hgl).mono ?_
      rintro e w2 ⟨rfl, hb2⟩
      rw [h3]
      have B2 : Below w.heap.size w w2 := by (repeat (first | exact Below.refl _ _ | refine Below.setCell ?_ (by first | (simp; done) | (simp; omega) | omega) _ | refine belowN ?_ _ | refine Below.drew ?_ | refine Below.alloc ?_ (by first | (simp; done) | (simp; omega) | omega) _ | refine Below.trans ?_ (Below.mono (by assumption) (by first | (simp; done) | (simp; omega) | omega))))
      have s2 := hb2.size
      have A2 := Lib.hid (A1.out.below hb2)
      clear hb2 q0 q1
      obtain ⟨q0, q1⟩ := A2.out
      have S2 := Lib.hid (HS.out.below B2)
      obtain ⟨sv, ⟨bo, bcap, hvt, hl2, hmx, -⟩, -⟩ := S2.out.t
      rw [hvt] at q1
      unfold maxLen at hmx
      go_wp2_with fail
      have HV := Lib.hid V.out
      have C2 : Below (w.heap.size + 1) w2 w2 := Below.refl _ _
      go_loopw [8, 25] (fun v i wr => ∃ (k : Nat) (x : Value), k ≤ S.ts.length ∧ i = .int .i64 k ∧ x = v ∧ wr.ownsRow (w.heap.size + 1) 2 1 x (twTo S m g k).length ((twTo S m g k).map (Value.int .i64)) ∧ Below w.heap.size w wr ∧ Below (w.heap.size + 1) w2 wr) (fun _ i _ => S.ts.length - (intOf i).toNat)
      case atStart => exact ⟨0, _, by omega, rfl, rfl, World.ownsRow_nil _ _ _ _, B2, C2⟩
      case round =>
        clear C2
        obtain ⟨k, x, hk, rfl, rfl, hown, hbw, hb1⟩ := hrel
        have k0 := (hb1.cell (p := ⟨w.heap.size, 0, none⟩) (by simp)).trans q0
        have k1 := (hb1.cell (p := ⟨w.heap.size, 1, none⟩) (by simp)).trans q1
        have sw := hbw.size
        have sv2 := hb1.size
        have hl := twTo_len S m g k
        by_cases hlt : k < S.ts.length
        · have H4 := Lib.hid (HV.out.sides hlt)
          have HT := Lib.hid (HS.out.t.below hbw)
          by_cases he : sideZ S k m = g
          · have HE : Hid (twTo S m g (k + 1) = twTo S m g k ++ [(k : Int)]) := by show (if sideZ S k m = g then _ else _) = _; rw [if_pos he]
            have HS2 := Lib.hid he
            clear he
            go_wp2_with fail
            refine (glueAt_any vg _ S k m _ (by rw [← hvt]; exact HT.out) hlt hm H4.out).mono ?_
            rintro e w3 ⟨rfl, hb3⟩
            rw [HS2.out]
            have own3 := ownsRow_keep hown hb3
            have s3 := hb3.size
            have B3 := hbw.trans (hb3.mono sw)
            have C3 := hb1.trans (hb3.mono (by omega))
            clear hb3 hown
            go_wp2_with (at_builtin; refine wpList_append_own _ rfl _ _ 44 rfl (w.heap.size + 1) 2 i0 (.int .i64 0) 1 8 Try.underlying44 hi hz0 hz1 hz2 rfl (by decide) _ _ _ rfl (own3.alloc _) ⟨w3.heap.size, 0, none⟩ 1 1 [.int .i64 (k : Int)] rfl rfl (cell_one_new _ _ _) (ints_oneCell .i64 [(k : Int)]) (maxLen_of (by omega)) (by omega) (by simp; omega) ?_; intro v' w4 hown4 hgrow4 _)
            go_roundw
            case rel =>
              refine ⟨k + 1, v', by omega, by go_num, rfl, ?_, (B3.alloc (by omega) _).grown hgrow4 (by simp; omega) (fun j hj => by have := own_block_ge own3 j hj; omega), (C3.alloc (by omega) _).grown hgrow4 (by simp; omega) (fun j hj => own_block_ge own3 j hj)⟩
              rw [HE.out]
              simpa using hown4
            case measure => simp [intOf]; omega
          · have HE : Hid (twTo S m g (k + 1) = twTo S m g k) := by show (if sideZ S k m = g then _ else _) = _; rw [if_neg he]
            have bn : (sideZ S k m == g) = false := by simpa using he
            clear he
            go_wp2_with fail
            refine (glueAt_any vg _ S k m _ (by rw [← hvt]; exact HT.out) hlt hm H4.out).mono ?_
            rintro e w3 ⟨rfl, hb3⟩
            have own3 := ownsRow_keep hown hb3
            have s3 := hb3.size
            have B3 := hbw.trans (hb3.mono sw)
            have C3 := hb1.trans (hb3.mono (by omega))
            clear hb3 hown
            go_wp2_with fail
            go_roundw
            case rel => exact ⟨k + 1, x, by omega, by go_num, rfl, by rw [HE.out]; exact own3, B3, C3⟩
            case measure => simp [intOf]; omega
        · obtain rfl : k = S.ts.length := by omega
          have HR := Lib.hid (OwnAt.of_row hown)
          go_wp2_with fail
          go_ret2
          obtain ⟨b, hb, hob⟩ := HR.out
          exact ⟨⟨x, b, by rw [K.out.2]; rfl, by omega, by rw [K.out.1]; exact hob⟩, hbw⟩
    · have K := Lib.hid (tw_out hv hin)
      cases h2 : inB d 0 3 <;> cases h3 : inB g 0 (S.gs.length : Int)
      case neg.true.true => exact absurd ⟨h2, h3⟩ hin
      all_goals
        clear hin
        go_enter Try.func31, Try.ntmps31
        go_wp2_with fail
        refine (implValid_any vg vt S _ (HS.out.below (by (repeat (first | exact Below.refl _ _ | refine Below.setCell ?_ (by first | (simp; done) | (simp; omega) | omega) _ | refine belowN ?_ _ | refine Below.drew ?_ | refine Below.alloc ?_ (by first | (simp; done) | (simp; omega) | omega) _ | refine Below.trans ?_ (Below.mono (by assumption) (by first | (simp; done) | (simp; omega) | omega)))))) ok hs).mono ?_
        rintro e w1 ⟨rfl, hb1⟩
        have B1 : Below w.heap.size w w1 := by (repeat (first | exact Below.refl _ _ | refine Below.setCell ?_ (by first | (simp; done) | (simp; omega) | omega) _ | refine belowN ?_ _ | refine Below.drew ?_ | refine Below.alloc ?_ (by first | (simp; done) | (simp; omega) | omega) _ | refine Below.trans ?_ (Below.mono (by assumption) (by first | (simp; done) | (simp; omega) | omega))))
        have s1 := B1.size
        obtain ⟨q0, q1⟩ := (At.new w vg vt 31).below hb1
        clear hb1
        go_wp2_with (first
          | (go_at_call 69; refine (isDirection_any _ _).mono ?_; rintro e w' ⟨rfl, rfl⟩; rw [h2])
          | (go_at_call 75; refine (hasGlue_any vg vt S.gs g _ (HS.out.g.below B1) hgl).mono ?_; rintro e w2 ⟨rfl, hb2⟩; rw [h3]))
        go_ret2
        exact ⟨ListPost.nil K.out.1 K.out.2.symm, by (repeat (first | exact Below.refl _ _ | refine Below.setCell ?_ (by first | (simp; done) | (simp; omega) | omega) _ | refine belowN ?_ _ | refine Below.drew ?_ | refine Below.alloc ?_ (by first | (simp; done) | (simp; omega) | omega) _ | refine Below.trans ?_ (Below.mono (by assumption) (by first | (simp; done) | (simp; omega) | omega))))⟩

end Go.Proofs.Ytfoegoanbppaaaa
