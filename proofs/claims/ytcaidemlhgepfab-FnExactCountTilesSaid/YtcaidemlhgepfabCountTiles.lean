/-
  For every set of tiles and every assembly, CountTiles of the program answers as the model's, both results, in memory of its own; the law FnExactCountTiles returns true and leaves its arguments as they were. Conditions: none.
-/
import Derived.Test.YtcaidemlhgepfabVA
import Derived.Test.YtcaidemlhgepfabMark
namespace Go.Proofs.Ytcaidemlhgepfab
open Go.RowKit

/-- A list of numbers that has its own memory, from lo to hi. -/
def OwnZ (w : World) (lo hi : Nat) (v : Value) (zs : List Int) : Prop := (v = .slice none 0 0 ∧ zs.length = 0) ∨ ∃ g, lo ≤ g ∧ g < hi ∧ OwnAt w g v zs
theorem OwnZ.ints {w : World} {lo hi : Nat} {v : Value} {zs : List Int} (h : OwnZ w lo hi v zs) : Ints w v zs := by
  rcases h with h | ⟨g, -, -, h⟩
  · exact OwnAt.ints (g := 0) (.inl h)
  · exact h.ints
theorem OwnZ.keep {w w1 : World} {lo hi a b : Nat} {v : Value} {zs : List Int} (h : OwnZ w lo hi v zs) (hw : Within a b w w1) (ho : hi ≤ a ∨ b ≤ lo) : OwnZ w1 lo hi v zs := by
  rcases h with h | ⟨g, h1, h2, h⟩
  · exact .inl h
  · exact .inr ⟨g, h1, h2, h.keep hw (by omega)⟩
theorem OwnZ.below {w w1 : World} {lo hi : Nat} {v : Value} {zs : List Int} (h : OwnZ w lo hi v zs) (hb : Below w.heap.size w w1) : OwnZ w1 lo hi v zs := h.keep (Within.of (lo := 0) (hi := 0) hb) (.inr (Nat.zero_le _))
theorem OwnZ.mono {w : World} {lo hi lo' hi' : Nat} {v : Value} {zs : List Int} (h : OwnZ w lo hi v zs) (h1 : lo' ≤ lo) (h2 : hi ≤ hi') : OwnZ w lo' hi' v zs := by
  rcases h with h | ⟨g, e1, e2, h⟩
  · exact .inl h
  · exact .inr ⟨g, by omega, by omega, h⟩
theorem Ints.shape {w : World} {v : Value} {zs : List Int} (h : Ints w v zs) : ∃ a k q, v = .slice a k q := let ⟨a, q, h, _⟩ := h; ⟨a, _, q, h⟩
def MarkedZ (w : World) (v : Value) (n : Nat) : Prop := Ints w v (mInts 1 n)
theorem MarkedZ.below {w w1 : World} {v : Value} {n : Nat} (h : MarkedZ w v n) (hb : Below w.heap.size w w1) : MarkedZ w1 v n := Ints.below h hb
theorem markInt64S_own (lo hi : Nat) (v : Value) (zs : List Int) (w : World) (h : OwnZ w lo hi v zs) (hz : zs.length ≤ 1048576) (_hw : hi ≤ w.heap.size) :
    Calls Try.prog 22 #[v, .int .i64 1] w fun e w' => e = .returned (.int .i64 (iEnd zs.length : Int)) ∧ MarkedZ w' v zs.length ∧ Within lo hi w w' := by
  rcases h with ⟨rfl, h0⟩ | ⟨g, h1, h2, h⟩
  · rw [h0]
    go_enter Try.func22, Try.ntmps22
    go_wp2_with fail
    refine wp_loop_rounds 1 ?_
    rw [rounds_succ]
    go_wp2
    go_ret
    exact ⟨rfl, ⟨none, 0, rfl, Nat.le_refl _, by unfold maxLen; omega, fun h => absurd h (Nat.lt_irrefl 0)⟩, Within.refl _ _ _⟩
  · refine (markInt64S_one g v zs w h hz).mono ?_
    rintro e w1 ⟨rfl, hm, hw⟩
    exact ⟨rfl, hm.ints, hw.mono h1 (by omega)⟩
theorem heldInt64S_own (v : Value) (zs : List Int) (w : World) (h : MarkedZ w v zs.length) (hz : zs.length ≤ 1048576) :
    Calls Try.prog 23 #[v, .int .i64 1] w fun e w' => e = .returned (.int .i64 (iEnd zs.length : Int)) ∧ Below w.heap.size w w' :=
  (heldInt64S_one v zs.length w h hz).mono fun _ _ ⟨he, hw⟩ => ⟨he, by subst hw; exact Below.refl _ _⟩

/-- How many of the first k tiles are t. -/
def cnt (ps : List Pl) (t : Nat) : Nat → Int
  | 0 => 0
  | k + 1 => if pT ps k = (t : Int) then cnt ps t k + 1 else cnt ps t k
theorem cnt_le (ps : List Pl) (t k : Nat) : 0 ≤ cnt ps t k ∧ cnt ps t k ≤ k := by
  induction k with
  | zero => exact ⟨Int.le_refl _, Int.le_refl _⟩
  | succ k ih => simp only [cnt]; split <;> omega
def ctL (ps : List Pl) (n k : Nat) : List Int := (List.range n).map fun t => cnt ps t k
theorem ctL_len (ps : List Pl) (n k : Nat) : (ctL ps n k).length = n := by simp [ctL]
theorem ctL_at (ps : List Pl) (n k : Nat) {t : Nat} (h : t < n) : iAt (ctL ps n k) t = cnt ps t k := by simp [iAt, ctL, h]
noncomputable def ctZ (S : Set_) (ps : List Pl) : List Int := if vaB S ps = true then ctL ps S.ts.length ps.length else []
noncomputable def ctC (S : Set_) (ps : List Pl) : Int := if vaB S ps = true then 0 else 1
theorem ct_yes {S : Set_} {ps : List Pl} (h : vaB S ps = true) : ctZ S ps = ctL ps S.ts.length ps.length ∧ ctC S ps = 0 := by simp [ctZ, ctC, h]
theorem ct_no {S : Set_} {ps : List Pl} (h : vaB S ps = false) : ctZ S ps = [] ∧ ctC S ps = 1 := by simp [ctZ, ctC, h]
theorem smallCountTiles {S : Set_} {ps : List Pl} (h : S.small) (_h2 : ps.length ≤ 1048576) : (ctZ S ps).length ≤ 1048576 := by
  unfold ctZ; split
  · rw [ctL_len]; exact h.tl
  · simp
/-- A call that returns a list of numbers in new memory, and a code. -/
def ZPost (W : World) (zs : List Int) (c : Int) (e : Ending) (w' : World) : Prop := ∃ v, e = .returned (.tuple #[v, .int .i64 c]) ∧ OwnZ w' W.heap.size w'.heap.size v zs
theorem ZPost.nil {W w' : World} {zs : List Int} {c x : Int} (hz : zs = []) (hc : x = c) : ZPost W zs c (.returned (.tuple #[.slice none 0 0, .int .i64 x])) w' := ⟨_, by rw [hc], .inl ⟨rfl, by rw [hz]; rfl⟩⟩
theorem ZPost.mk {W w' : World} {zs : List Int} {c x : Int} {v : Value} (hc : x = c) (h : OwnZ w' W.heap.size w'.heap.size v zs) : ZPost W zs c (.returned (.tuple #[v, .int .i64 x])) w' := ⟨_, by rw [hc], h⟩
theorem vaB_parts {S : Set_} {ps : List Pl} (h : vaB S ps = true) : Form ps ∧ ∀ i, i < ps.length → 0 ≤ pT ps i ∧ pT ps i < S.ts.length := by
  unfold vaB at h
  simp only [Bool.and_eq_true] at h
  exact ⟨formB_iff.1 h.1.2, tlB_iff.1 h.2⟩

/-- The row of counts behind k tiles. -/
def CtRow (w : World) (g n : Nat) (ps : List Pl) (k : Nat) : Prop := w.rowIs g 2 n (fun t => .int .i64 (cnt ps t k))
theorem CtRow.step {w : World} {g n : Nat} {ps : List Pl} {k t : Nat} (h : CtRow w g n ps k) (ht : pT ps k = (t : Int)) : CtRow (w.setCell ⟨g, t, none⟩ (.int .i64 (cnt ps t k + 1))) g n ps (k + 1) := by
  refine (World.rowIs.set h t _).congr fun i hi => ?_
  by_cases e : i = t
  · subst e; simp [cnt, ht]
  · have : ¬ pT ps k = (i : Int) := by omega
    simp [cnt, e, this]
theorem CtRow.own {w : World} {lo g n : Nat} {ps : List Pl} {k : Nat} (h : CtRow w g n ps k) (hn : n ≤ 1048576) (h1 : lo ≤ g) : OwnZ w lo w.heap.size (.slice (some ⟨g, 0, none⟩) n n) (ctL ps n k) :=
  .inr ⟨g, h1, h.lt, .inr ⟨n, _, by rw [ctL_len], by rw [ctL_len]; exact Nat.le_refl _, maxLen_of hn, h, fun i hi => by rw [ctL_len] at hi; rw [ctL_at _ _ _ hi]⟩⟩

theorem CtRow.alloc {w : World} {g n : Nat} {ps : List Pl} {k : Nat} (h : CtRow w g n ps k) (o : Obj) : CtRow (w.alloc o) g n ps k := World.rowIs.of_block h ((Below.alloc (Below.refl w.heap.size w) (Nat.le_refl _) o).block g (World.rowIs.lt h))

set_option maxHeartbeats 1600000 in
theorem specCountTiles_law (vg1 vt1 : Value) (S1 : Set_) (v2 : Value) (P2 : List Pl) (w : World) (h1 : SetIn w vg1 vt1 S1) (_s1 : ∃ a k q, vg1 = .slice (some a) k q) (ok1 : S1.ok) (m1 : S1.small) (h2 : Plcs w v2 P2) (_s2 : ∃ a k q, v2 = .slice (some a) k q) (_o2 : ∀ p ∈ P2, p.ok) (_m2 : P2.length ≤ 1048576) :
    Calls Try.prog 17 #[.agg #[vg1, vt1], .agg #[v2]] w fun e w' => ZPost w (ctZ S1 P2) (ctC S1 P2) e w' ∧ Below w.heap.size w w' := by
  have HS := Lib.hid h1
  have HV := Lib.hid h2
  obtain ⟨ao, cap, rfl, hl, hm, hc⟩ := h2.open_
  unfold maxLen at hm
  have H0 := Lib.hid hc
  have HB := Lib.hid (boxes_sa w vg1 vt1 (.slice ao P2.length cap) 35 39)
  have htl := m1.tl
  have hmk := mk_i64 S1.ts.length htl
  clear h1 h2 hc
  go_enter Try.func17, Try.ntmps17
  go_wp2_with fail
  refine (l02Ok_any _ vg1 vt1 S1 _ HB.out.1 (HS.out.below (by (repeat (first | exact Below.refl _ _ | refine Below.setCell ?_ (by first | (simp; done) | (simp; omega) | omega) _ | refine belowN ?_ _ | refine Below.drew ?_ | refine Below.alloc ?_ (by first | (simp; done) | (simp; omega) | omega) _ | refine Below.trans ?_ (Below.mono (by assumption) (by first | (simp; done) | (simp; omega) | omega)))))) ok1 m1).mono ?_
  rintro e w1 ⟨rfl, hb1⟩
  have B1 : Below w.heap.size w w1 := by (repeat (first | exact Below.refl _ _ | refine Below.setCell ?_ (by first | (simp; done) | (simp; omega) | omega) _ | refine belowN ?_ _ | refine Below.drew ?_ | refine Below.alloc ?_ (by first | (simp; done) | (simp; omega) | omega) _ | refine Below.trans ?_ (Below.mono (by assumption) (by first | (simp; done) | (simp; omega) | omega))))
  have z1 := B1.size
  have A1 := Lib.hid (HB.out.1.below hb1)
  have E1 := Lib.hid (HB.out.2.below hb1)
  clear hb1
  cases hv : validB S1
  · have K := Lib.hid (ct_no (S := S1) (ps := P2) (by unfold vaB; rw [hv]; rfl))
    go_wp2_with fail
    go_ret2
    exact ⟨ZPost.nil K.out.1 K.out.2.symm, B1⟩
  have K0 := Lib.hid (show aOkB S1.ts.length P2 = vaB S1 P2 by unfold vaB aOkB; rw [hv, Bool.true_and])
  clear hv
  cases hva : vaB S1 P2
  · have K := Lib.hid (ct_no hva)
    go_wp2_with (go_at_call 37; refine (l03Ok_any _ _ vg1 vt1 _ S1 P2 _ A1.out E1.out (HS.out.below B1) m1 (HV.out.below B1)).mono ?_; rintro e w2 ⟨rfl, hb2⟩; rw [K0.out, hva])
    go_ret2
    exact ⟨ZPost.nil K.out.1 K.out.2.symm, by (repeat (first | exact Below.refl _ _ | refine Below.setCell ?_ (by first | (simp; done) | (simp; omega) | omega) _ | refine belowN ?_ _ | refine Below.drew ?_ | refine Below.alloc ?_ (by first | (simp; done) | (simp; omega) | omega) _ | refine Below.trans ?_ (Below.mono (by assumption) (by first | (simp; done) | (simp; omega) | omega))))⟩
  have K := Lib.hid (ct_yes hva)
  have PT := Lib.hid (vaB_parts hva)
  have h500 := PT.out.1.len
  go_wp2_with fail
  refine (l03Ok_any _ _ vg1 vt1 _ S1 P2 _ A1.out E1.out (HS.out.below B1) m1 (HV.out.below B1)).mono ?_
  rintro e w2 ⟨rfl, hb2⟩
  rw [K0.out, hva]
  have B2 : Below w.heap.size w w2 := by (repeat (first | exact Below.refl _ _ | refine Below.setCell ?_ (by first | (simp; done) | (simp; omega) | omega) _ | refine belowN ?_ _ | refine Below.drew ?_ | refine Below.alloc ?_ (by first | (simp; done) | (simp; omega) | omega) _ | refine Below.trans ?_ (Below.mono (by assumption) (by first | (simp; done) | (simp; omega) | omega))))
  have z2 := B2.size
  have A2 := Lib.hid (A1.out.below hb2)
  have E2 := Lib.hid (E1.out.below hb2)
  obtain ⟨a0, a1⟩ := A2.out
  have e0 := E2.out.c0
  have el := E2.out.lt
  clear hb2 hva
  obtain ⟨svt, ⟨bo, bcap, hvt, hl2, hmx, -⟩, -⟩ := HS.out.t
  rw [hvt] at a1
  unfold maxLen at hmx
  have HVT := Lib.hid hvt
  clear hvt
  go_wp2_with fail
  go_loopw [7] (fun i wr => ∃ k : Nat, k ≤ P2.length ∧ i = .int .i64 k ∧ CtRow wr w2.heap.size S1.ts.length P2 k ∧ At1 wr (w.heap.size + 1) (.slice ao P2.length cap) ∧ Below w.heap.size w wr) (fun i _ => P2.length - (intOf i).toNat)
  case atStart => exact ⟨0, by omega, rfl, (World.rowIs_made w2 (.int .i64 0) S1.ts.length 2).congr (fun i _ => rfl), E2.out.below (by (repeat (first | exact Below.refl _ _ | refine Below.setCell ?_ (by first | (simp; done) | (simp; omega) | omega) _ | refine belowN ?_ _ | refine Below.drew ?_ | refine Below.alloc ?_ (by first | (simp; done) | (simp; omega) | omega) _ | refine Below.trans ?_ (Below.mono (by assumption) (by first | (simp; done) | (simp; omega) | omega))))), by (repeat (first | exact Below.refl _ _ | refine Below.setCell ?_ (by first | (simp; done) | (simp; omega) | omega) _ | refine belowN ?_ _ | refine Below.drew ?_ | refine Below.alloc ?_ (by first | (simp; done) | (simp; omega) | omega) _ | refine Below.trans ?_ (Below.mono (by assumption) (by first | (simp; done) | (simp; omega) | omega))))⟩
  case round =>
    clear a0 a1 e0
    obtain ⟨k, hk, rfl, hrow, hat, hbw⟩ := hrel
    have HAT := Lib.hid hat
    have e0 := hat.c0
    have HROW := Lib.hid hrow
    clear hat
    by_cases hlt : k < P2.length
    · obtain ⟨b, off, rfl, H1⟩ := H0.out (by omega)
      obtain ⟨-, -, c2⟩ := H1 k hlt
      have c2 := cell_below hbw c2
      have hpt := PT.out.2 k hlt
      obtain ⟨t, ht⟩ := Int.eq_ofNat_of_zero_le hpt.1
      have HT := Lib.hid ht
      rw [ht] at c2 hpt
      have htn : t < S1.ts.length := by omega
      have d0 := World.rowIs.cell hrow (i := t) htn
      have z0 := World.rowIs.frozen hrow t
      have hcn := cnt_le P2 t k
      clear H1 ht hrow
      go_wp2_with fail
      go_roundw
      case rel => exact ⟨k + 1, by omega, by go_num, HROW.out.step HT.out, HAT.out.keep (Within.set1 w2.heap.size wr t _) (by omega), by (repeat (first | exact Below.refl _ _ | refine Below.setCell ?_ (by first | (simp; done) | (simp; omega) | omega) _ | refine belowN ?_ _ | refine Below.drew ?_ | refine Below.alloc ?_ (by first | (simp; done) | (simp; omega) | omega) _ | refine Below.trans ?_ (Below.mono (by assumption) (by first | (simp; done) | (simp; omega) | omega))))⟩
      case measure => simp [intOf]; omega
    · obtain rfl : k = P2.length := by omega
      go_wp2_with fail
      go_ret2
      exact ⟨ZPost.mk K.out.2.symm (by rw [K.out.1]; exact HROW.out.own htl (by omega)), hbw⟩

set_option maxHeartbeats 1600000 in
theorem implCountTiles_law (vg1 vt1 : Value) (S1 : Set_) (v2 : Value) (P2 : List Pl) (w : World) (h1 : SetIn w vg1 vt1 S1) (s1 : ∃ a k q, vg1 = .slice (some a) k q) (ok1 : S1.ok) (m1 : S1.small) (h2 : Plcs w v2 P2) (s2 : ∃ a k q, v2 = .slice (some a) k q) (o2 : ∀ p ∈ P2, p.ok) (m2 : P2.length ≤ 1048576) :
    Calls Try.prog 18 #[.agg #[vg1, vt1], .agg #[v2]] w fun e w' => ZPost w (ctZ S1 P2) (ctC S1 P2) e w' ∧ Below w.heap.size w w' := by
  have HS := Lib.hid h1
  have HV := Lib.hid h2
  obtain ⟨ao, cap, rfl, hl, hm, hc⟩ := h2.open_
  unfold maxLen at hm
  have H0 := Lib.hid hc
  have HB := Lib.hid (boxes_sa w vg1 vt1 (.slice ao P2.length cap) 35 39)
  have htl := m1.tl
  have hmk := mk_i64 S1.ts.length htl
  have HS1 := Lib.hid s1
  have HS2 := Lib.hid s2
  clear h1 h2 hc s1 s2
  go_enter Try.func18, Try.ntmps18
  go_wp2_with fail
  refine (implValidAssembly_law vg1 vt1 S1 _ P2 _ (HS.out.below (by (repeat (first | exact Below.refl _ _ | refine Below.setCell ?_ (by first | (simp; done) | (simp; omega) | omega) _ | refine belowN ?_ _ | refine Below.drew ?_ | refine Below.alloc ?_ (by first | (simp; done) | (simp; omega) | omega) _ | refine Below.trans ?_ (Below.mono (by assumption) (by first | (simp; done) | (simp; omega) | omega)))))) HS1.out ok1 m1 (HV.out.below (by (repeat (first | exact Below.refl _ _ | refine Below.setCell ?_ (by first | (simp; done) | (simp; omega) | omega) _ | refine belowN ?_ _ | refine Below.drew ?_ | refine Below.alloc ?_ (by first | (simp; done) | (simp; omega) | omega) _ | refine Below.trans ?_ (Below.mono (by assumption) (by first | (simp; done) | (simp; omega) | omega)))))) HS2.out o2 m2).mono ?_
  rintro e w2 ⟨rfl, hb2⟩
  have B2 : Below w.heap.size w w2 := by (repeat (first | exact Below.refl _ _ | refine Below.setCell ?_ (by first | (simp; done) | (simp; omega) | omega) _ | refine belowN ?_ _ | refine Below.drew ?_ | refine Below.alloc ?_ (by first | (simp; done) | (simp; omega) | omega) _ | refine Below.trans ?_ (Below.mono (by assumption) (by first | (simp; done) | (simp; omega) | omega))))
  have z2 := B2.size
  have A2 := Lib.hid (HB.out.1.below hb2)
  have E2 := Lib.hid (HB.out.2.below hb2)
  clear hb2
  cases hva : vaB S1 P2
  · have K := Lib.hid (ct_no hva)
    go_wp2_with fail
    go_ret2
    exact ⟨ZPost.nil K.out.1 K.out.2.symm, B2⟩
  have K := Lib.hid (ct_yes hva)
  have PT := Lib.hid (vaB_parts hva)
  have h500 := PT.out.1.len
  obtain ⟨a0, a1⟩ := A2.out
  have e0 := E2.out.c0
  have el := E2.out.lt
  clear hva
  obtain ⟨svt, ⟨bo, bcap, hvt, hl2, hmx, -⟩, -⟩ := HS.out.t
  rw [hvt] at a1
  unfold maxLen at hmx
  have HVT := Lib.hid hvt
  clear hvt
  go_wp2_with fail
  go_loopw [20] (fun i wr => ∃ k : Nat, k ≤ P2.length ∧ i = .int .i64 k ∧ CtRow wr w2.heap.size S1.ts.length P2 k ∧ Below w.heap.size w wr) (fun i _ => P2.length - (intOf i).toNat)
  case atStart => exact ⟨0, by omega, rfl, (World.rowIs_made w2 (.int .i64 0) S1.ts.length 2).congr (fun i _ => rfl), by (repeat (first | exact Below.refl _ _ | refine Below.setCell ?_ (by first | (simp; done) | (simp; omega) | omega) _ | refine belowN ?_ _ | refine Below.drew ?_ | refine Below.alloc ?_ (by first | (simp; done) | (simp; omega) | omega) _ | refine Below.trans ?_ (Below.mono (by assumption) (by first | (simp; done) | (simp; omega) | omega))))⟩
  case round =>
    clear a0 a1 e0
    obtain ⟨k, hk, rfl, hrow, hbw⟩ := hrel
    have HROW := Lib.hid hrow
    have sw := hbw.size
    have hgl := World.rowIs.lt hrow
    by_cases hlt : k < P2.length
    · obtain ⟨b, off, rfl, H1⟩ := H0.out (by omega)
      obtain ⟨c0, c1, c2⟩ := H1 k hlt
      have c0 := cell_below hbw c0
      have c1 := cell_below hbw c1
      have c2 := cell_below hbw c2
      have hpt := PT.out.2 k hlt
      obtain ⟨t, ht⟩ := Int.eq_ofNat_of_zero_le hpt.1
      have HT := Lib.hid ht
      rw [ht] at c2 hpt
      have htn : t < S1.ts.length := by omega
      have d0 := World.rowIs.cell hrow (i := t) htn
      have z0 := World.rowIs.frozen hrow t
      have hcn := cnt_le P2 t k
      clear H1 ht hrow
      go_wp2_with fail
      go_roundw
      case rel => exact ⟨k + 1, by omega, by go_num, (HROW.out.step HT.out).alloc _, by (repeat (first | exact Below.refl _ _ | refine Below.setCell ?_ (by first | (simp; done) | (simp; omega) | omega) _ | refine belowN ?_ _ | refine Below.drew ?_ | refine Below.alloc ?_ (by first | (simp; done) | (simp; omega) | omega) _ | refine Below.trans ?_ (Below.mono (by assumption) (by first | (simp; done) | (simp; omega) | omega))))⟩
      case measure => simp [intOf]; omega
    · obtain rfl : k = P2.length := by omega
      go_wp2_with fail
      go_ret2
      exact ⟨ZPost.mk K.out.2.symm (by rw [K.out.1]; exact HROW.out.own htl (by omega)), hbw⟩

set_option maxRecDepth 100000 in
set_option maxHeartbeats 1000000 in
set_option linter.unusedVariables false in
theorem walk_FnExactCountTiles (vg1 vt1 : Value) (S1 : Set_) (v2 : Value) (P2 : List Pl) (w : World) (h1 : SetIn w vg1 vt1 S1) (ok1 : S1.ok) (h2 : Plcs w v2 P2) (ok2 : ∀ p ∈ P2, p.ok) :
    Calls Try.prog 4 #[.agg #[vg1, vt1], .agg #[v2]] w fun e w' => e = .returned (.bool true) ∧ Below w.heap.size w w' := by
  have H1 := Lib.hid h1
  clear h1
  have H2 := Lib.hid h2
  clear h2
  have A1_0' : At ((w.alloc (.cells #[vg1, vt1] 25)).alloc (.cells #[v2] 28)) (w.heap.size) (vg1) (vt1) := ⟨by simp [go_sem], by simp [go_sem]⟩
  have A1_0 := Lib.hid A1_0'
  clear A1_0'
  have A2_0' : At1 ((w.alloc (.cells #[vg1, vt1] 25)).alloc (.cells #[v2] 28)) (w.heap.size + 1) v2 := ⟨by simp [go_sem]⟩
  have A2_0 := Lib.hid A2_0'
  clear A2_0'
  go_enter Try.func4, Try.ntmps4
  go_wp2_with fail
  refine (szTileSet_any vg1 vt1 S1 1048576 _ (H1.out.below (by (repeat (first | exact Below.refl _ _ | refine Below.setCell ?_ (by first | (simp; done) | (simp; omega) | omega) _ | refine belowN ?_ _ | refine Below.drew ?_ | refine Below.alloc ?_ (by first | (simp; done) | (simp; omega) | omega) _ | refine Below.trans ?_ (Below.mono (by assumption) (by first | (simp; done) | (simp; omega) | omega)))))) ok1 (by omega) (by omega)).mono ?_
  rintro e w1 ⟨⟨r1, rfl, hr⟩, hb⟩
  have B1 : Below w.heap.size w w1 := by (repeat (first | exact Below.refl _ _ | refine Below.setCell ?_ (by first | (simp; done) | (simp; omega) | omega) _ | refine belowN ?_ _ | refine Below.drew ?_ | refine Below.alloc ?_ (by first | (simp; done) | (simp; omega) | omega) _ | refine Below.trans ?_ (Below.mono (by assumption) (by first | (simp; done) | (simp; omega) | omega))))
  have A1_1 := Lib.hid (A1_0.out.below hb)
  have A2_1 := Lib.hid (A2_0.out.below hb)
  have s1 : w.heap.size + 1 < w1.heap.size := A2_1.out.lt
  clear hb
  rcases hr with rfl | ⟨hl1, hm1, hs1⟩
  · go_wp2
    go_ret
    exact ⟨rfl, B1⟩
  have bb1 : decide (r1 < 0) = false := by simp; omega
  obtain ⟨kA10, kA11⟩ := A1_1.out
  have lA1 := A1_1.out.lt
  obtain ⟨kA20⟩ := A2_1.out
  have lA2 := A2_1.out.lt
  go_wp2_with fail
  clear kA10 kA11 lA1 kA20 lA2
  refine (szAssembly_any v2 P2 r1 _ (H2.out.below (by (repeat (first | exact Below.refl _ _ | refine Below.setCell ?_ (by first | (simp; done) | (simp; omega) | omega) _ | refine belowN ?_ _ | refine Below.drew ?_ | refine Below.alloc ?_ (by first | (simp; done) | (simp; omega) | omega) _ | refine Below.trans ?_ (Below.mono (by assumption) (by first | (simp; done) | (simp; omega) | omega)))))) hl1 (by omega)).mono ?_
  rintro e w2 ⟨⟨r2, rfl, hr⟩, hb⟩
  have q2 : Below w1.heap.size w1 w2 := by (repeat (first | exact Below.refl _ _ | refine Below.setCell ?_ (by first | (simp; done) | (simp; omega) | omega) _ | refine belowN ?_ _ | refine Below.drew ?_ | refine Below.alloc ?_ (by first | (simp; done) | (simp; omega) | omega) _ | refine Below.trans ?_ (Below.mono (by assumption) (by first | (simp; done) | (simp; omega) | omega))))
  have s2 : w1.heap.size ≤ w2.heap.size := q2.size
  have B2 : Below w.heap.size w w2 := B1.trans (q2.mono (by omega))
  have A1_2 := Lib.hid (A1_1.out.below q2)
  have A2_2 := Lib.hid (A2_1.out.below q2)
  clear hb q2
  rcases hr with rfl | ⟨hl2, hm2, hs2⟩
  · go_wp2
    go_ret
    exact ⟨rfl, B2⟩
  have bb2 : decide (r2 < 0) = false := by simp; omega
  obtain ⟨kA10, kA11⟩ := A1_2.out
  have lA1 := A1_2.out.lt
  obtain ⟨kA20⟩ := A2_2.out
  have lA2 := A2_2.out.lt
  go_wp2_with fail
  go_region_held3 (fun w' => w'.cell? ⟨w.heap.size, 0, none⟩ = some (vg1) ∧ w'.cell? ⟨w.heap.size, 1, none⟩ = some (vt1) ∧ w'.cell? ⟨w.heap.size + 1, 0, none⟩ = some (v2)) ((((try go_split_ands); (try dsimp only); (repeat' apply And.intro)) <;> (repeat (first | with_reducible assumption | ((with_reducible refine cnew0 ?_); simp; done) | ((with_reducible refine cnew1 ?_); simp; done) | (with_reducible refine akeep ?_) | (with_reducible refine dkeep ?_) | ((with_reducible refine skeep ?_ ?_); rotate_left; (first | ((try dsimp only); omega) | (simp; done) | (simp; omega))) | (with_reducible refine bkeep hb3 ?_)))))
    (first
      | (go_at_call_of 12 (Value.agg #[vg1, vt1]); refine (toTileSet_any vg1 vt1 S1 _ (H1.out.below (by (repeat (first | exact Below.refl _ _ | refine Below.setCell ?_ (by first | (simp; done) | (simp; omega) | omega) _ | refine belowN ?_ _ | refine Below.drew ?_ | refine Below.alloc ?_ (by first | (simp; done) | (simp; omega) | omega) _ | refine Below.trans ?_ (Below.mono (by assumption) (by first | (simp; done) | (simp; omega) | omega)))))) hs1).mono ?_; rintro e w3 ⟨⟨z1g, z1t, rfl, zo1⟩, hb3⟩; have s3 : w2.heap.size ≤ w3.heap.size := Nat.le_trans (by first | exact Nat.le_refl _ | (simp; done) | (simp; omega)) hb3.size)
      | (go_at_call_of 13 (Value.agg #[v2]); refine (toAssembly_any v2 P2 _ (H2.out.below (by (repeat (first | exact Below.refl _ _ | refine Below.setCell ?_ (by first | (simp; done) | (simp; omega) | omega) _ | refine belowN ?_ _ | refine Below.drew ?_ | refine Below.alloc ?_ (by first | (simp; done) | (simp; omega) | omega) _ | refine Below.trans ?_ (Below.mono (by assumption) (by first | (simp; done) | (simp; omega) | omega)))))) hs2).mono ?_; rintro e w4 ⟨⟨z2, rfl, zo2⟩, hb3⟩; have s4 : w3.heap.size ≤ w4.heap.size := Nat.le_trans (by first | exact Nat.le_refl _ | (simp; done) | (simp; omega)) hb3.size)
      | (go_at_call 17; refine (specCountTiles_law z1g z1t S1 z2 P2 _ ((zo1.setIn hs1).below (by (repeat (first | exact Below.refl _ _ | refine Below.setCell ?_ (by first | (simp; done) | (simp; omega) | omega) _ | refine belowN ?_ _ | refine Below.drew ?_ | refine Below.alloc ?_ (by first | (simp; done) | (simp; omega) | omega) _ | refine Below.trans ?_ (Below.mono (by assumption) (by first | (simp; done) | (simp; omega) | omega)))))) zo1.sol ok1 hs1 (zo2.1.plcs.below (by (repeat (first | exact Below.refl _ _ | refine Below.setCell ?_ (by first | (simp; done) | (simp; omega) | omega) _ | refine belowN ?_ _ | refine Below.drew ?_ | refine Below.alloc ?_ (by first | (simp; done) | (simp; omega) | omega) _ | refine Below.trans ?_ (Below.mono (by assumption) (by first | (simp; done) | (simp; omega) | omega)))))) zo2.2 ok2 hs2).mono ?_; rintro e w5 ⟨⟨zr, rfl, zro⟩, hb3⟩; have s5 : w4.heap.size ≤ w5.heap.size := Nat.le_trans (by first | exact Nat.le_refl _ | (simp; done) | (simp; omega)) hb3.size; obtain ⟨zra, zrn, zrc, rfl⟩ := zro.ints.shape))
  have q5 : Below w2.heap.size w2 w5 := by (repeat (first | exact Below.refl _ _ | refine Below.setCell ?_ (by first | (simp; done) | (simp; omega) | omega) _ | refine belowN ?_ _ | refine Below.drew ?_ | refine Below.alloc ?_ (by first | (simp; done) | (simp; omega) | omega) _ | refine Below.trans ?_ (Below.mono (by assumption) (by first | (simp; done) | (simp; omega) | omega))))
  have B5 : Below w.heap.size w w5 := B2.trans (q5.mono (by omega))
  have A1_5 := Lib.hid (A1_2.out.below q5)
  have A2_5 := Lib.hid (A2_2.out.below q5)
  clear kA10 kA11 lA1 kA20 lA2
  clear hb3 q5
  have VS := Lib.hid zro.ints
  clear zro
  obtain ⟨kA10, kA11⟩ := A1_5.out
  have lA1 := A1_5.out.lt
  go_wp2_with fail
  refine (toTileSet_any vg1 vt1 S1 _ (H1.out.below (by (repeat (first | exact Below.refl _ _ | refine Below.setCell ?_ (by first | (simp; done) | (simp; omega) | omega) _ | refine belowN ?_ _ | refine Below.drew ?_ | refine Below.alloc ?_ (by first | (simp; done) | (simp; omega) | omega) _ | refine Below.trans ?_ (Below.mono (by assumption) (by first | (simp; done) | (simp; omega) | omega)))))) hs1).mono ?_
  rintro e w6 ⟨⟨x1_g, x1_t, rfl, own⟩, hb⟩
  have q6 : Below w5.heap.size w5 w6 := by (repeat (first | exact Below.refl _ _ | refine Below.setCell ?_ (by first | (simp; done) | (simp; omega) | omega) _ | refine belowN ?_ _ | refine Below.drew ?_ | refine Below.alloc ?_ (by first | (simp; done) | (simp; omega) | omega) _ | refine Below.trans ?_ (Below.mono (by assumption) (by first | (simp; done) | (simp; omega) | omega))))
  have s6 : w5.heap.size ≤ w6.heap.size := q6.size
  have B6 : Below w.heap.size w w6 := B5.trans (q6.mono (by omega))
  have C6 := Lib.hid q6
  have A1_6 := Lib.hid (A1_5.out.below q6)
  have A2_6 := Lib.hid (A2_5.out.below q6)
  have SL1 := own.sol
  have X1_6 := Lib.hid (OwnSet.mono (lo' := w5.heap.size) (hi' := w6.heap.size) (own.own hs1) (by first | (simp; done) | (simp; omega)) (Nat.le_refl _))
  clear hb q6 own kA10 kA11 lA1
  obtain ⟨x1_g0, x1_g1, x1_g2, x1_g3, x1_g4, x1_g5, rfl, rfl⟩ := X1_6.out.setIn.shape
  obtain ⟨kA20⟩ := A2_6.out
  have lA2 := A2_6.out.lt
  go_wp2_with fail
  refine (toAssembly_any v2 P2 _ (H2.out.below (by (repeat (first | exact Below.refl _ _ | refine Below.setCell ?_ (by first | (simp; done) | (simp; omega) | omega) _ | refine belowN ?_ _ | refine Below.drew ?_ | refine Below.alloc ?_ (by first | (simp; done) | (simp; omega) | omega) _ | refine Below.trans ?_ (Below.mono (by assumption) (by first | (simp; done) | (simp; omega) | omega)))))) hs2).mono ?_
  rintro e w7 ⟨⟨x2_, rfl, own⟩, hb⟩
  have q7 : Below w6.heap.size w6 w7 := by (repeat (first | exact Below.refl _ _ | refine Below.setCell ?_ (by first | (simp; done) | (simp; omega) | omega) _ | refine belowN ?_ _ | refine Below.drew ?_ | refine Below.alloc ?_ (by first | (simp; done) | (simp; omega) | omega) _ | refine Below.trans ?_ (Below.mono (by assumption) (by first | (simp; done) | (simp; omega) | omega))))
  have s7 : w6.heap.size ≤ w7.heap.size := q7.size
  have B7 : Below w.heap.size w w7 := B6.trans (q7.mono (by omega))
  have C7 := Lib.hid (C6.out.trans (q7.mono (by omega)))
  have A1_7 := Lib.hid (A1_6.out.below q7)
  have A2_7 := Lib.hid (A2_6.out.below q7)
  have X1_7 := Lib.hid (X1_6.out.below q7)
  have Y1_7 := Lib.hid (At.below (p := w6.heap.size) (vg := (.slice x1_g0 x1_g1 x1_g2)) (vt := (.slice x1_g3 x1_g4 x1_g5)) (by exact ⟨by simp [go_sem], by simp [go_sem]⟩) hb)
  have SL2 := own.2
  have X2_7 := Lib.hid (OwnA.mono (lo' := w6.heap.size + 1) (hi' := w7.heap.size) own.1 (by first | (simp; done) | (simp; omega)) (Nat.le_refl _))
  clear hb q7 own kA20 lA2
  obtain ⟨x2_a, x2_n, x2_c, rfl⟩ := X2_7.out.plcs.shape
  obtain ⟨kY10, kY11⟩ := Y1_7.out
  have lY1 := Y1_7.out.lt
  go_wp2_with fail
  refine (implCountTiles_law (.slice x1_g0 x1_g1 x1_g2) (.slice x1_g3 x1_g4 x1_g5) S1 (.slice x2_a x2_n x2_c) P2 _ (X1_7.out.setIn.below (by (repeat (first | exact Below.refl _ _ | refine Below.setCell ?_ (by first | (simp; done) | (simp; omega) | omega) _ | refine belowN ?_ _ | refine Below.drew ?_ | refine Below.alloc ?_ (by first | (simp; done) | (simp; omega) | omega) _ | refine Below.trans ?_ (Below.mono (by assumption) (by first | (simp; done) | (simp; omega) | omega)))))) SL1 ok1 hs1 (X2_7.out.plcs.below (by (repeat (first | exact Below.refl _ _ | refine Below.setCell ?_ (by first | (simp; done) | (simp; omega) | omega) _ | refine belowN ?_ _ | refine Below.drew ?_ | refine Below.alloc ?_ (by first | (simp; done) | (simp; omega) | omega) _ | refine Below.trans ?_ (Below.mono (by assumption) (by first | (simp; done) | (simp; omega) | omega)))))) SL2 ok2 hs2).mono ?_
  rintro e w8 ⟨⟨gr, rfl, gro⟩, hb⟩
  have q8 : Below w7.heap.size w7 w8 := by (repeat (first | exact Below.refl _ _ | refine Below.setCell ?_ (by first | (simp; done) | (simp; omega) | omega) _ | refine belowN ?_ _ | refine Below.drew ?_ | refine Below.alloc ?_ (by first | (simp; done) | (simp; omega) | omega) _ | refine Below.trans ?_ (Below.mono (by assumption) (by first | (simp; done) | (simp; omega) | omega))))
  have s8 : w7.heap.size ≤ w8.heap.size := q8.size
  have B8 : Below w.heap.size w w8 := B7.trans (q8.mono (by omega))
  have C8 := Lib.hid (C7.out.trans (q8.mono (by omega)))
  have A1_8 := Lib.hid (A1_7.out.below q8)
  have A2_8 := Lib.hid (A2_7.out.below q8)
  have X1_8 := Lib.hid (X1_7.out.below q8)
  have Y1_8 := Lib.hid (Y1_7.out.below q8)
  have X2_8 := Lib.hid (X2_7.out.below q8)
  have Y2_8 := Lib.hid (At1.below (p := w7.heap.size) (v := (.slice x2_a x2_n x2_c)) (by exact ⟨by simp [go_sem]⟩) hb)
  clear hb q8 kY10 kY11 lY1
  obtain ⟨gra, grn, grc, rfl⟩ := gro.ints.shape
  have U_8 := Lib.hid (OwnZ.mono (lo' := w7.heap.size + 1) (hi' := w8.heap.size) gro (by first | omega | (simp; done) | (simp; omega)) (Nat.le_refl _))
  clear gro
  have hsR := smallCountTiles hs1 hs2
  go_wp2_with fail
  refine (eqInt64S_yes _ _ (ctZ S1 P2) _ (U_8.out.ints.below (by (repeat (first | exact Below.refl _ _ | refine Below.setCell ?_ (by first | (simp; done) | (simp; omega) | omega) _ | refine belowN ?_ _ | refine Below.drew ?_ | refine Below.alloc ?_ (by first | (simp; done) | (simp; omega) | omega) _ | refine Below.trans ?_ (Below.mono (by assumption) (by first | (simp; done) | (simp; omega) | omega)))))) ((VS.out.below C8.out).below (by (repeat (first | exact Below.refl _ _ | refine Below.setCell ?_ (by first | (simp; done) | (simp; omega) | omega) _ | refine belowN ?_ _ | refine Below.drew ?_ | refine Below.alloc ?_ (by first | (simp; done) | (simp; omega) | omega) _ | refine Below.trans ?_ (Below.mono (by assumption) (by first | (simp; done) | (simp; omega) | omega))))))).mono ?_
  rintro e w9 ⟨rfl, hb⟩
  have q9 : Below w8.heap.size w8 w9 := by (repeat (first | exact Below.refl _ _ | refine Below.setCell ?_ (by first | (simp; done) | (simp; omega) | omega) _ | refine belowN ?_ _ | refine Below.drew ?_ | refine Below.alloc ?_ (by first | (simp; done) | (simp; omega) | omega) _ | refine Below.trans ?_ (Below.mono (by assumption) (by first | (simp; done) | (simp; omega) | omega))))
  have s9 : w8.heap.size ≤ w9.heap.size := q9.size
  have B9 : Below w.heap.size w w9 := B8.trans (q9.mono (by omega))
  have C9 := Lib.hid (C8.out.trans (q9.mono (by omega)))
  have A1_9 := Lib.hid (A1_8.out.below q9)
  have A2_9 := Lib.hid (A2_8.out.below q9)
  have X1_9 := Lib.hid (X1_8.out.below q9)
  have Y1_9 := Lib.hid (Y1_8.out.below q9)
  have X2_9 := Lib.hid (X2_8.out.below q9)
  have Y2_9 := Lib.hid (Y2_8.out.below q9)
  have U_9 := Lib.hid (U_8.out.below q9)
  clear hb q9 
  obtain ⟨kA10, kA11⟩ := A1_9.out
  have lA1 := A1_9.out.lt
  obtain ⟨kY10, kY11⟩ := Y1_9.out
  have lY1 := Y1_9.out.lt
  go_wp2_with fail
  go_region_held3 (fun w' => w'.cell? ⟨w.heap.size, 0, none⟩ = some (vg1) ∧ w'.cell? ⟨w.heap.size, 1, none⟩ = some (vt1) ∧ w'.cell? ⟨w6.heap.size, 0, none⟩ = some (.slice x1_g0 x1_g1 x1_g2) ∧ w'.cell? ⟨w6.heap.size, 1, none⟩ = some (.slice x1_g3 x1_g4 x1_g5)) ((((try go_split_ands); (try dsimp only); (repeat' apply And.intro)) <;> (repeat (first | with_reducible assumption | ((with_reducible refine cnew0 ?_); simp; done) | ((with_reducible refine cnew1 ?_); simp; done) | (with_reducible refine akeep ?_) | (with_reducible refine dkeep ?_) | ((with_reducible refine skeep ?_ ?_); rotate_left; (first | ((try dsimp only); omega) | (simp; done) | (simp; omega))) | (with_reducible refine bkeep hb3 ?_)))))
    (first
      | (go_at_call 12; refine (toTileSet_any vg1 vt1 S1 _ (H1.out.below (by (repeat (first | exact Below.refl _ _ | refine Below.setCell ?_ (by first | (simp; done) | (simp; omega) | omega) _ | refine belowN ?_ _ | refine Below.drew ?_ | refine Below.alloc ?_ (by first | (simp; done) | (simp; omega) | omega) _ | refine Below.trans ?_ (Below.mono (by assumption) (by first | (simp; done) | (simp; omega) | omega)))))) hs1).mono ?_; rintro e w10 ⟨⟨u1g, u1t, rfl, own⟩, hb3⟩; have s10 : w9.heap.size ≤ w10.heap.size := Nat.le_trans (by first | exact Nat.le_refl _ | (simp; done) | (simp; omega)) hb3.size)
      | (go_at_call 15; refine (eqTileSet_yes _ _ _ _ S1 _ (X1_9.out.setIn.below (by (repeat (first | exact Below.refl _ _ | refine Below.setCell ?_ (by first | (simp; done) | (simp; omega) | omega) _ | refine belowN ?_ _ | refine Below.drew ?_ | refine Below.alloc ?_ (by first | (simp; done) | (simp; omega) | omega) _ | refine Below.trans ?_ (Below.mono (by assumption) (by first | (simp; done) | (simp; omega) | omega)))))) ((own.setIn hs1).below (by (repeat (first | exact Below.refl _ _ | refine Below.setCell ?_ (by first | (simp; done) | (simp; omega) | omega) _ | refine belowN ?_ _ | refine Below.drew ?_ | refine Below.alloc ?_ (by first | (simp; done) | (simp; omega) | omega) _ | refine Below.trans ?_ (Below.mono (by assumption) (by first | (simp; done) | (simp; omega) | omega))))))).mono ?_; rintro e w11 ⟨rfl, hb3⟩; have s11 : w10.heap.size ≤ w11.heap.size := Nat.le_trans (by first | exact Nat.le_refl _ | (simp; done) | (simp; omega)) hb3.size))
  have q11 : Below w9.heap.size w9 w11 := by (repeat (first | exact Below.refl _ _ | refine Below.setCell ?_ (by first | (simp; done) | (simp; omega) | omega) _ | refine belowN ?_ _ | refine Below.drew ?_ | refine Below.alloc ?_ (by first | (simp; done) | (simp; omega) | omega) _ | refine Below.trans ?_ (Below.mono (by assumption) (by first | (simp; done) | (simp; omega) | omega))))
  have B11 : Below w.heap.size w w11 := B9.trans (q11.mono (by omega))
  have C11 := Lib.hid (C9.out.trans (q11.mono (by omega)))
  have A1_11 := Lib.hid (A1_9.out.below q11)
  have A2_11 := Lib.hid (A2_9.out.below q11)
  have X1_11 := Lib.hid (X1_9.out.below q11)
  have Y1_11 := Lib.hid (Y1_9.out.below q11)
  have X2_11 := Lib.hid (X2_9.out.below q11)
  have Y2_11 := Lib.hid (Y2_9.out.below q11)
  have U_11 := Lib.hid (U_9.out.below q11)
  clear hb3 q11 own kA10 kA11 lA1 kY10 kY11 lY1
  obtain ⟨kA20⟩ := A2_11.out
  have lA2 := A2_11.out.lt
  obtain ⟨kY20⟩ := Y2_11.out
  have lY2 := Y2_11.out.lt
  go_wp2_with fail
  go_region_held3 (fun w' => w'.cell? ⟨w.heap.size + 1, 0, none⟩ = some (v2) ∧ w'.cell? ⟨w7.heap.size, 0, none⟩ = some (.slice x2_a x2_n x2_c)) ((((try go_split_ands); (try dsimp only); (repeat' apply And.intro)) <;> (repeat (first | with_reducible assumption | ((with_reducible refine cnew0 ?_); simp; done) | ((with_reducible refine cnew1 ?_); simp; done) | (with_reducible refine akeep ?_) | (with_reducible refine dkeep ?_) | ((with_reducible refine skeep ?_ ?_); rotate_left; (first | ((try dsimp only); omega) | (simp; done) | (simp; omega))) | (with_reducible refine bkeep hb3 ?_)))))
    (first
      | (go_at_call 13; refine (toAssembly_any v2 P2 _ (H2.out.below (by (repeat (first | exact Below.refl _ _ | refine Below.setCell ?_ (by first | (simp; done) | (simp; omega) | omega) _ | refine belowN ?_ _ | refine Below.drew ?_ | refine Below.alloc ?_ (by first | (simp; done) | (simp; omega) | omega) _ | refine Below.trans ?_ (Below.mono (by assumption) (by first | (simp; done) | (simp; omega) | omega)))))) hs2).mono ?_; rintro e w12 ⟨⟨u2, rfl, own⟩, hb3⟩; have s12 : w11.heap.size ≤ w12.heap.size := Nat.le_trans (by first | exact Nat.le_refl _ | (simp; done) | (simp; omega)) hb3.size)
      | (go_at_call 16; refine (eqAssembly_yes _ _ P2 _ (X2_11.out.plcs.below (by (repeat (first | exact Below.refl _ _ | refine Below.setCell ?_ (by first | (simp; done) | (simp; omega) | omega) _ | refine belowN ?_ _ | refine Below.drew ?_ | refine Below.alloc ?_ (by first | (simp; done) | (simp; omega) | omega) _ | refine Below.trans ?_ (Below.mono (by assumption) (by first | (simp; done) | (simp; omega) | omega)))))) (own.1.plcs.below (by (repeat (first | exact Below.refl _ _ | refine Below.setCell ?_ (by first | (simp; done) | (simp; omega) | omega) _ | refine belowN ?_ _ | refine Below.drew ?_ | refine Below.alloc ?_ (by first | (simp; done) | (simp; omega) | omega) _ | refine Below.trans ?_ (Below.mono (by assumption) (by first | (simp; done) | (simp; omega) | omega))))))).mono ?_; rintro e w13 ⟨rfl, hb3⟩; have s13 : w12.heap.size ≤ w13.heap.size := Nat.le_trans (by first | exact Nat.le_refl _ | (simp; done) | (simp; omega)) hb3.size))
  have q13 : Below w11.heap.size w11 w13 := by (repeat (first | exact Below.refl _ _ | refine Below.setCell ?_ (by first | (simp; done) | (simp; omega) | omega) _ | refine belowN ?_ _ | refine Below.drew ?_ | refine Below.alloc ?_ (by first | (simp; done) | (simp; omega) | omega) _ | refine Below.trans ?_ (Below.mono (by assumption) (by first | (simp; done) | (simp; omega) | omega))))
  have B13 : Below w.heap.size w w13 := B11.trans (q13.mono (by omega))
  have C13 := Lib.hid (C11.out.trans (q13.mono (by omega)))
  have A1_13 := Lib.hid (A1_11.out.below q13)
  have A2_13 := Lib.hid (A2_11.out.below q13)
  have X1_13 := Lib.hid (X1_11.out.below q13)
  have Y1_13 := Lib.hid (Y1_11.out.below q13)
  have X2_13 := Lib.hid (X2_11.out.below q13)
  have Y2_13 := Lib.hid (Y2_11.out.below q13)
  have U_13 := Lib.hid (U_11.out.below q13)
  clear hb3 q13 own kA20 lA2 kY20 lY2
  clear SL1 SL2
  obtain ⟨kY10, kY11⟩ := Y1_13.out
  have lY1 := Y1_13.out.lt
  go_wp2_with fail
  refine (markTileSet_one (w5.heap.size) w6.heap.size _ _ S1 _ X1_13.out hs1 (by omega)).mono ?_
  rintro e w14 ⟨rfl, -, hw⟩
  have s14 : w13.heap.size ≤ w14.heap.size := hw.size
  have B14 : Below w.heap.size w w14 := B13.trans (hw.belowK (by omega) (by omega))
  have C14 := Lib.hid (C13.out.trans (hw.belowK (by omega) (by omega)))
  have A1_14 := Lib.hid (A1_13.out.keep hw (by omega))
  have A2_14 := Lib.hid (A2_13.out.keep hw (by omega))
  have Y1_14 := Lib.hid (Y1_13.out.keep hw (by omega))
  have X2_14 := Lib.hid (X2_13.out.keep hw (by omega))
  have Y2_14 := Lib.hid (Y2_13.out.keep hw (by omega))
  have U_14 := Lib.hid (U_13.out.keep hw (by omega))
  clear hw kY10 kY11 lY1
  have hk2 : (mEnd S1 1) ≤ 1125899906842624 := by have := mEnd_le S1 1 hs1; omega
  obtain ⟨kY20⟩ := Y2_14.out
  have lY2 := Y2_14.out.lt
  go_wp2_with fail
  refine (markAssembly_any (w6.heap.size + 1) w7.heap.size _ P2 (mEnd S1 1) _ X2_14.out hs2 (by have := hk2; omega) (by omega)).mono ?_
  rintro e w15 ⟨rfl, -, hw⟩
  have s15 : w14.heap.size ≤ w15.heap.size := hw.size
  have B15 : Below w.heap.size w w15 := B14.trans (hw.belowK (by omega) (by omega))
  have C15 := Lib.hid (C14.out.trans (hw.belowK (by omega) (by omega)))
  have A1_15 := Lib.hid (A1_14.out.keep hw (by omega))
  have A2_15 := Lib.hid (A2_14.out.keep hw (by omega))
  have Y2_15 := Lib.hid (Y2_14.out.keep hw (by omega))
  have U_15 := Lib.hid (U_14.out.keep hw (by omega))
  clear hw kY20 lY2
  have bn : decide ((((mkE 3 P2.length (mEnd S1 1)) : Nat) : Int) < 0) = false := by simp
  go_wp2_with fail
  refine (eqInt64S_yes _ _ (ctZ S1 P2) _ (U_15.out.ints.below (by (repeat (first | exact Below.refl _ _ | refine Below.setCell ?_ (by first | (simp; done) | (simp; omega) | omega) _ | refine belowN ?_ _ | refine Below.drew ?_ | refine Below.alloc ?_ (by first | (simp; done) | (simp; omega) | omega) _ | refine Below.trans ?_ (Below.mono (by assumption) (by first | (simp; done) | (simp; omega) | omega)))))) ((VS.out.below C15.out).below (by (repeat (first | exact Below.refl _ _ | refine Below.setCell ?_ (by first | (simp; done) | (simp; omega) | omega) _ | refine belowN ?_ _ | refine Below.drew ?_ | refine Below.alloc ?_ (by first | (simp; done) | (simp; omega) | omega) _ | refine Below.trans ?_ (Below.mono (by assumption) (by first | (simp; done) | (simp; omega) | omega))))))).mono ?_
  rintro e w16 ⟨rfl, hb⟩
  have q16 : Below w15.heap.size w15 w16 := by (repeat (first | exact Below.refl _ _ | refine Below.setCell ?_ (by first | (simp; done) | (simp; omega) | omega) _ | refine belowN ?_ _ | refine Below.drew ?_ | refine Below.alloc ?_ (by first | (simp; done) | (simp; omega) | omega) _ | refine Below.trans ?_ (Below.mono (by assumption) (by first | (simp; done) | (simp; omega) | omega))))
  have s16 : w15.heap.size ≤ w16.heap.size := q16.size
  have B16 : Below w.heap.size w w16 := B15.trans (q16.mono (by omega))
  have C16 := Lib.hid (C15.out.trans (q16.mono (by omega)))
  have A1_16 := Lib.hid (A1_15.out.below q16)
  have A2_16 := Lib.hid (A2_15.out.below q16)
  have U_16 := Lib.hid (U_15.out.below q16)
  clear hb q16 
  go_wp2_with fail
  refine (markInt64S_own (w7.heap.size + 1) w8.heap.size _ (ctZ S1 P2) _ U_16.out hsR (by omega)).mono ?_
  rintro e w17 ⟨rfl, hu, hw⟩
  have s17 : w16.heap.size ≤ w17.heap.size := hw.size
  have B17 : Below w.heap.size w w17 := B16.trans (hw.belowK (by omega) (by omega))
  have C17 := Lib.hid (C16.out.trans (hw.belowK (by omega) (by omega)))
  have A1_17 := Lib.hid (A1_16.out.keep hw (by omega))
  have A2_17 := Lib.hid (A2_16.out.keep hw (by omega))
  have U_17 := Lib.hid hu
  clear hw hu 
  have bi : decide (((iEnd (ctZ S1 P2).length : Nat) : Int) < 0) = false := by simp
  go_wp2_with fail
  refine (heldInt64S_own _ (ctZ S1 P2) _ U_17.out hsR).mono ?_
  rintro e w18 ⟨rfl, hb⟩
  have q18 : Below w17.heap.size w17 w18 := by (repeat (first | exact Below.refl _ _ | refine Below.setCell ?_ (by first | (simp; done) | (simp; omega) | omega) _ | refine belowN ?_ _ | refine Below.drew ?_ | refine Below.alloc ?_ (by first | (simp; done) | (simp; omega) | omega) _ | refine Below.trans ?_ (Below.mono (by assumption) (by first | (simp; done) | (simp; omega) | omega))))
  have s18 : w17.heap.size ≤ w18.heap.size := q18.size
  have B18 : Below w.heap.size w w18 := B17.trans (q18.mono (by omega))
  have C18 := Lib.hid (C17.out.trans (q18.mono (by omega)))
  have A1_18 := Lib.hid (A1_17.out.below q18)
  have A2_18 := Lib.hid (A2_17.out.below q18)
  have U_18 := Lib.hid (U_17.out.below q18)
  clear hb q18 
  obtain ⟨kA10, kA11⟩ := A1_18.out
  have lA1 := A1_18.out.lt
  obtain ⟨kA20⟩ := A2_18.out
  have lA2 := A2_18.out.lt
  go_wp2_with fail
  go_region_held3 (fun w' => w'.cell? ⟨w.heap.size, 0, none⟩ = some (vg1) ∧ w'.cell? ⟨w.heap.size, 1, none⟩ = some (vt1) ∧ w'.cell? ⟨w.heap.size + 1, 0, none⟩ = some (v2)) ((((try go_split_ands); (try dsimp only); (repeat' apply And.intro)) <;> (repeat (first | with_reducible assumption | ((with_reducible refine cnew0 ?_); simp; done) | ((with_reducible refine cnew1 ?_); simp; done) | (with_reducible refine akeep ?_) | (with_reducible refine dkeep ?_) | ((with_reducible refine skeep ?_ ?_); rotate_left; (first | ((try dsimp only); omega) | (simp; done) | (simp; omega))) | (with_reducible refine bkeep hb3 ?_)))))
    (first
      | (go_at_call_of 12 (Value.agg #[vg1, vt1]); refine (toTileSet_any vg1 vt1 S1 _ (H1.out.below (by (repeat (first | exact Below.refl _ _ | refine Below.setCell ?_ (by first | (simp; done) | (simp; omega) | omega) _ | refine belowN ?_ _ | refine Below.drew ?_ | refine Below.alloc ?_ (by first | (simp; done) | (simp; omega) | omega) _ | refine Below.trans ?_ (Below.mono (by assumption) (by first | (simp; done) | (simp; omega) | omega)))))) hs1).mono ?_; rintro e w19 ⟨⟨h1g, h1t, rfl, ho1⟩, hb3⟩; have s19 : w18.heap.size ≤ w19.heap.size := Nat.le_trans (by first | exact Nat.le_refl _ | (simp; done) | (simp; omega)) hb3.size)
      | (go_at_call_of 13 (Value.agg #[v2]); refine (toAssembly_any v2 P2 _ (H2.out.below (by (repeat (first | exact Below.refl _ _ | refine Below.setCell ?_ (by first | (simp; done) | (simp; omega) | omega) _ | refine belowN ?_ _ | refine Below.drew ?_ | refine Below.alloc ?_ (by first | (simp; done) | (simp; omega) | omega) _ | refine Below.trans ?_ (Below.mono (by assumption) (by first | (simp; done) | (simp; omega) | omega)))))) hs2).mono ?_; rintro e w20 ⟨⟨h2, rfl, ho2⟩, hb3⟩; have s20 : w19.heap.size ≤ w20.heap.size := Nat.le_trans (by first | exact Nat.le_refl _ | (simp; done) | (simp; omega)) hb3.size)
      | (go_at_call 18; refine (implCountTiles_law h1g h1t S1 h2 P2 _ ((ho1.setIn hs1).below (by (repeat (first | exact Below.refl _ _ | refine Below.setCell ?_ (by first | (simp; done) | (simp; omega) | omega) _ | refine belowN ?_ _ | refine Below.drew ?_ | refine Below.alloc ?_ (by first | (simp; done) | (simp; omega) | omega) _ | refine Below.trans ?_ (Below.mono (by assumption) (by first | (simp; done) | (simp; omega) | omega)))))) ho1.sol ok1 hs1 (ho2.1.plcs.below (by (repeat (first | exact Below.refl _ _ | refine Below.setCell ?_ (by first | (simp; done) | (simp; omega) | omega) _ | refine belowN ?_ _ | refine Below.drew ?_ | refine Below.alloc ?_ (by first | (simp; done) | (simp; omega) | omega) _ | refine Below.trans ?_ (Below.mono (by assumption) (by first | (simp; done) | (simp; omega) | omega)))))) ho2.2 ok2 hs2).mono ?_; rintro e w21 ⟨⟨hr, rfl, hro⟩, hb3⟩; have s21 : w20.heap.size ≤ w21.heap.size := Nat.le_trans (by first | exact Nat.le_refl _ | (simp; done) | (simp; omega)) hb3.size; obtain ⟨hra, hrn, hrc, rfl⟩ := hro.ints.shape))
  have q21 : Below w18.heap.size w18 w21 := by (repeat (first | exact Below.refl _ _ | refine Below.setCell ?_ (by first | (simp; done) | (simp; omega) | omega) _ | refine belowN ?_ _ | refine Below.drew ?_ | refine Below.alloc ?_ (by first | (simp; done) | (simp; omega) | omega) _ | refine Below.trans ?_ (Below.mono (by assumption) (by first | (simp; done) | (simp; omega) | omega))))
  have B21 : Below w.heap.size w w21 := B18.trans (q21.mono (by omega))
  have C21 := Lib.hid (C18.out.trans (q21.mono (by omega)))
  have A1_21 := Lib.hid (A1_18.out.below q21)
  have A2_21 := Lib.hid (A2_18.out.below q21)
  have U_21 := Lib.hid (U_18.out.below q21)
  clear kA10 kA11 lA1 kA20 lA2
  clear hb3 q21
  have HI := Lib.hid hro.ints
  clear hro
  go_wp2_with fail
  refine (eqInt64S_yes _ _ (ctZ S1 P2) _ (HI.out.below (by (repeat (first | exact Below.refl _ _ | refine Below.setCell ?_ (by first | (simp; done) | (simp; omega) | omega) _ | refine belowN ?_ _ | refine Below.drew ?_ | refine Below.alloc ?_ (by first | (simp; done) | (simp; omega) | omega) _ | refine Below.trans ?_ (Below.mono (by assumption) (by first | (simp; done) | (simp; omega) | omega)))))) ((VS.out.below C21.out).below (by (repeat (first | exact Below.refl _ _ | refine Below.setCell ?_ (by first | (simp; done) | (simp; omega) | omega) _ | refine belowN ?_ _ | refine Below.drew ?_ | refine Below.alloc ?_ (by first | (simp; done) | (simp; omega) | omega) _ | refine Below.trans ?_ (Below.mono (by assumption) (by first | (simp; done) | (simp; omega) | omega))))))).mono ?_
  rintro e w22 ⟨rfl, hb⟩
  have q22 : Below w21.heap.size w21 w22 := by (repeat (first | exact Below.refl _ _ | refine Below.setCell ?_ (by first | (simp; done) | (simp; omega) | omega) _ | refine belowN ?_ _ | refine Below.drew ?_ | refine Below.alloc ?_ (by first | (simp; done) | (simp; omega) | omega) _ | refine Below.trans ?_ (Below.mono (by assumption) (by first | (simp; done) | (simp; omega) | omega))))
  have s22 : w21.heap.size ≤ w22.heap.size := q22.size
  have B22 : Below w.heap.size w w22 := B21.trans (q22.mono (by omega))
  have C22 := Lib.hid (C21.out.trans (q22.mono (by omega)))
  have A1_22 := Lib.hid (A1_21.out.below q22)
  have A2_22 := Lib.hid (A2_21.out.below q22)
  have U_22 := Lib.hid (U_21.out.below q22)
  clear hb q22 
  go_wp2_with fail
  refine (heldInt64S_own _ (ctZ S1 P2) _ U_22.out hsR).mono ?_
  rintro e w23 ⟨rfl, hb⟩
  have q23 : Below w22.heap.size w22 w23 := by (repeat (first | exact Below.refl _ _ | refine Below.setCell ?_ (by first | (simp; done) | (simp; omega) | omega) _ | refine belowN ?_ _ | refine Below.drew ?_ | refine Below.alloc ?_ (by first | (simp; done) | (simp; omega) | omega) _ | refine Below.trans ?_ (Below.mono (by assumption) (by first | (simp; done) | (simp; omega) | omega))))
  have s23 : w22.heap.size ≤ w23.heap.size := q23.size
  have B23 : Below w.heap.size w w23 := B22.trans (q23.mono (by omega))
  have C23 := Lib.hid (C22.out.trans (q23.mono (by omega)))
  have A1_23 := Lib.hid (A1_22.out.below q23)
  have A2_23 := Lib.hid (A2_22.out.below q23)
  have U_23 := Lib.hid (U_22.out.below q23)
  clear hb q23 
  go_wp2_with fail
  go_ret
  exact ⟨rfl, B23⟩

namespace fnExactCountTiles
open Go.ChangeShapes Go.WideShapes Go.ChangeAt Go.RowKit Go.Joins
open Go.ChangeMaps (open_string shut_string)
theorem own : ownKnob Try.prog.godebug = none := by kernel_rfl
theorem laidOut : laidOutB Try.prog = true := by kernel_rfl
theorem readable : (Try.f4.params.toList.all fun t => Try.prog.readableRec t && decide (t < Try.prog.types.size)) = true := by kernel_rfl
theorem cells_0 : Try.prog.cellsOf 25 = 2 := by kernel_rfl
theorem cells_1 : Try.prog.cellsOf 28 = 1 := by kernel_rfl
set_option maxRecDepth 100000 in
set_option linter.unusedVariables false in
theorem contract (H : Type) (enc : TypeId × Value → H) (W : World) (base : Nat) (args : Array Value) (ds gs : List (DataW H)) (before : List MemPlace)
    (hval : ∀ (j : Nat) t v, Try.f4.params[j]? = some t → args[j]? = some v → Value.okWide Try.prog W .any base t v)
    (hW : DataW.Whole enc Try.prog Try.f4.params.toList Rows.fnExactCountTilesSpec.vars false W args.toList ds gs before) :
    Calls Try.prog 4 args W fun e W' => ∃ v, e = .returned v ∧ Rows.fnExactCountTilesSpec.post enc Try.prog Try.f4 false true false false W args v W' := by
  have hW' := hW
  obtain ⟨p, q, hA0, hV, rfl, hfz, hnd⟩ := hW
  have hA : DataW.TrodAll enc Try.prog W 0 (fun _ => true) true Try.f4.params.toList args.toList ds p := hA0
  rw [Try.params4] at hA hval
  obtain ⟨v0, vs0, d0, ds0, p0, q0, ha0, rfl, rfl, h0, r0⟩ := trodAll_cons hA
  obtain ⟨v1, vs1, d1, ds1, p1, q1, ha1, rfl, rfl, h1, r1⟩ := trodAll_cons r0
  obtain ⟨rfl, rfl, rfl⟩ := trodAll_nil r1
  obtain rfl : args = #[v0, v1] := by cases args; simp_all
  obtain ⟨rfl, rfl⟩ := trodVars_none hV
  obtain ⟨c0, e0, y0, z0, m0, rfl, -, -, hy0, hz0⟩ := open_agg2 Try.underlying25 (by kernel_rfl) cells_0 (hval 0 25 v0 rfl rfl) h0
  obtain ⟨gs0, hg0, og0⟩ := open_glues (t := 22) (e := 111) Try.underlying22 Try.underlying111 (by kernel_rfl) (by kernel_rfl) rfl rfl Try.underlying9 Try.underlying2 hy0
  obtain ⟨ts0, ht0, ot0⟩ := open_tiles (t := 23) (e := 113) Try.underlying23 Try.underlying113 (by kernel_rfl) (by kernel_rfl) rfl rfl Try.underlying9 Try.underlying44 Try.underlying2 (by kernel_rfl) hz0
  obtain ⟨c1, y1, m1, rfl, hy1⟩ := open_one Try.underlying28 (by kernel_rfl) cells_1 (hval 1 28 v1 rfl rfl) h1
  obtain ⟨ps1, hg1, og1⟩ := open_placed (t := 26) (e := 122) (tp := 120) (ti := 2) Try.underlying26 Try.underlying122 Try.underlying120 (by kernel_rfl) ⟨rfl, rfl⟩ ⟨rfl, rfl⟩ (by kernel_rfl) (by kernel_rfl) ⟨rfl, rfl⟩ ⟨rfl, rfl⟩ Try.underlying2 hy1
  refine (walk_FnExactCountTiles c0 e0 ⟨gs0, ts0⟩ c1 ps1 W ⟨hg0, ht0⟩ ⟨og0, ot0⟩ hg1 og1).mono fun e W' ⟨he, hg⟩ => ?_
  subst he
  exact ⟨_, rfl, post_mem laidOut readable hW' (fun _ _ _ => (trodAll_cons_mk (shut_bool Try.underlying4 _) trodAll_mk0)) hA0 rfl rfl (by simp) hg⟩
set_option maxRecDepth 100000 in
theorem lifted (os : Os) (started : os.Started) (H : Type) (enc : TypeId × Value → H) :
    ReturnsInHanded {} Try.checked os 4 .any (Rows.fnExactCountTilesSpec.pre6 enc Try.prog Try.f4 Rows.fnExactCountTilesRow.domain false) (Rows.fnExactCountTilesSpec.post enc Try.prog Try.f4 false true false false) := by
  refine returnsInHanded_of_change (C := Try.checked) own started (by kernel_rfl) Try.func4
    (ChangeSpec.witness6 (enc := enc) (C := Try.checked) false ⟨#[], #[.agg #[.slice none 0 0, .slice none 0 0], .agg #[.slice none 0 0]], []⟩ 8 (by kernel_rfl) (by kernel_rfl) (by kernel_rfl) (by kernel_rfl)) ?_
  intro W base args ds gs before hval hW _ _
  exact contract H enc W base args ds gs before hval hW
end fnExactCountTiles
theorem fnExactCountTiles_holds : Rows.FnExactCountTilesSaid :=
  OpenClaim.holds_of_wide 4 Try.f4 rfl rfl rfl rfl rfl rfl rfl ⟨rfl, rfl, rfl, rfl, rfl⟩ rfl rfl rfl rfl rfl (by kernel_rfl) Try.func4 (by kernel_rfl)
    (of_decide_eq_true (by kernel_rfl)) (by unfold Func.isWrapper; first | (rw [if_pos (by decide +kernel)]; kernel_rfl) | (rw [if_neg (by decide +kernel)]; exact ⟨rfl, rfl⟩))
    (fun os started H enc _ => fnExactCountTiles.lifted os started H enc)
end Go.Proofs.Ytcaidemlhgepfab
