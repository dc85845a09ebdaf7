/-
  Lonely sides, the program's. Conditions: each theorem's own.
-/
import Derived.Test.YtaeaflbmaokieabLone
namespace Go.Proofs.Ytaeaflbmaokieab
open Go.RowKit

/-- The zero table of four times 201 truth values. -/
def zeroM : Array Value := Array.replicate 804 (.bool false)
set_option maxRecDepth 100000 in
theorem zero_table : Try.zeroCells104 = zeroM := by kernel_rfl
theorem zeroM_row (W : World) : (W.alloc (.cells Try.zeroCells104 104)).rowIs W.heap.size 104 804 (fun _ => .bool false) := by
  rw [zero_table]
  exact ⟨_, Deep.blk_alloc_new _ _, by simp [zeroM], fun i hi => by simp [zeroM, hi]⟩
/-- Where side r lies in the table. -/
def tabA (S : Set_) (r : Nat) : Nat := (r % 4) * 201 + (sideZ S (r / 4) (r % 4)).toNat
/-- The table behind r sides. -/
def tabB (S : Set_) : Nat → Nat → Bool
  | 0, _ => false
  | r + 1, q => if q = tabA S r then true else tabB S r q
theorem tabB_iff (S : Set_) (r q : Nat) : tabB S r q = true ↔ ∃ s, s < r ∧ q = tabA S s := by
  induction r with
  | zero => simp [tabB]
  | succ r ih =>
    simp only [tabB]
    split
    · next h => exact ⟨fun _ => ⟨r, by omega, h⟩, fun _ => rfl⟩
    · next h =>
      rw [ih]
      constructor
      · rintro ⟨s, hs, rfl⟩; exact ⟨s, by omega, rfl⟩
      · rintro ⟨s, hs, rfl⟩
        by_cases e : s = r
        · subst e; exact absurd rfl h
        · exact ⟨s, by omega, rfl⟩
theorem tabA_side (S : Set_) {i d : Nat} (hd : d < 4) : tabA S (i * 4 + d) = d * 201 + (sideZ S i d).toNat := by
  unfold tabA
  rw [show (i * 4 + d) / 4 = i by omega, show (i * 4 + d) % 4 = d by omega]
theorem tab_side (S : Set_) {i d g : Nat} (hd : d < 4) (hg : sideZ S i d = (g : Int)) (q : Nat) : (if q = d * 201 + g then Value.bool true else .bool (tabB S (i * 4 + d) q)) = .bool (tabB S (i * 4 + d + 1) q) := by
  simp only [tabB, tabA_side S hd, hg, Int.toNat_natCast]
  split <;> rfl
theorem tab_met {S : Set_} (V : Valid S) {i d g : Nat} (hg : sideZ S i d = (g : Int)) (hg0 : g ≠ 0) (hg2 : g ≤ 200) : metB S i d S.ts.length = tabB S (S.ts.length * 4) (oppN d * 201 + g) := by
  have h200 := V.g.len
  have ho := oppN_lt d
  have key : metP S i d S.ts.length ↔ ∃ s, s < S.ts.length * 4 ∧ oppN d * 201 + g = tabA S s := by
    constructor
    · rintro (a | ⟨k, hk, a⟩)
      · omega
      · refine ⟨k * 4 + oppN d, by omega, ?_⟩
        rw [tabA_side S ho, a, hg]
        simp
    · rintro ⟨s, hs, a⟩
      have hr := V.side (k := s / 4) (m := s % 4) (by omega) (Nat.mod_lt _ (by omega))
      unfold tabA at a
      have h4 : s % 4 < 4 := Nat.mod_lt _ (by omega)
      have e1 : s % 4 = oppN d := by omega
      refine .inr ⟨s / 4, by omega, ?_⟩
      rw [← e1, hg]
      have : (sideZ S (s / 4) (s % 4)).toNat = g := by rw [e1] at a ⊢; omega
      omega
  cases h : tabB S (S.ts.length * 4) (oppN d * 201 + g)
  · refine metB_no fun a => ?_
    have := (tabB_iff S _ _).2 (key.1 a)
    rw [h] at this; cases this
  · exact metB_iff.2 (key.2 ((tabB_iff S _ _).1 h))
theorem met_zero {S : Set_} {i d : Nat} (h : sideZ S i d = 0) (n : Nat) : metB S i d n = true := metB_iff.2 (.inl h)

set_option maxRecDepth 100000 in
set_option maxHeartbeats 4000000 in
set_option linter.unusedSimpArgs false in
theorem implLone_any (vg vt : Value) (S : Set_) (w : World) (hS : SetIn w vg vt S) (ok : S.ok) (hs : S.small) :
    Calls Try.prog 34 #[.agg #[vg, vt]] w fun e w' => e = .returned (.tuple #[.int .i64 (loV S), .int .i64 (loC S)]) ∧ Below w.heap.size w w' := by
  have HS := Lib.hid hS
  clear hS
  cases hv : validB S
  · have K := Lib.hid (lo_no hv)
    go_enter Try.func34, Try.ntmps34
    go_wp2_with fail
    refine (implValid_any vg vt S _ (HS.out.below (by (repeat (first | exact Below.refl _ _ | refine Below.setCell ?_ (by first | (simp; done) | (simp; omega) | omega) _ | refine belowN ?_ _ | refine Below.drew ?_ | refine Below.alloc ?_ (by first | (simp; done) | (simp; omega) | omega) _ | refine Below.trans ?_ (Below.mono (by assumption) (by first | (simp; done) | (simp; omega) | omega)))))) ok hs).mono ?_
    rintro e w1 ⟨rfl, hb1⟩
    rw [hv]
    go_wp2_with fail
    go_ret2
    exact ⟨by rw [K.out.1, K.out.2]; rfl, by (repeat (first | exact Below.refl _ _ | refine Below.setCell ?_ (by first | (simp; done) | (simp; omega) | omega) _ | refine belowN ?_ _ | refine Below.drew ?_ | refine Below.alloc ?_ (by first | (simp; done) | (simp; omega) | omega) _ | refine Below.trans ?_ (Below.mono (by assumption) (by first | (simp; done) | (simp; omega) | omega))))⟩
  · have K := Lib.hid (lo_yes hv)
    have V := validB_iff.1 hv
    have HV := Lib.hid V
    have h160 := V.t.len
    have h1t := V.t.one
    have HT := Lib.hid HS.out.t
    clear V
    go_enter Try.func34, Try.ntmps34
    go_wp2_with fail
    refine (implValid_any vg vt S _ (HS.out.below (by (repeat (first | exact Below.refl _ _ | refine Below.setCell ?_ (by first | (simp; done) | (simp; omega) | omega) _ | refine belowN ?_ _ | refine Below.drew ?_ | refine Below.alloc ?_ (by first | (simp; done) | (simp; omega) | omega) _ | refine Below.trans ?_ (Below.mono (by assumption) (by first | (simp; done) | (simp; omega) | omega)))))) ok hs).mono ?_
    rintro e w1 ⟨rfl, hb1⟩
    rw [hv]
    have B1 : Below w.heap.size w w1 := by (repeat (first | exact Below.refl _ _ | refine Below.setCell ?_ (by first | (simp; done) | (simp; omega) | omega) _ | refine belowN ?_ _ | refine Below.drew ?_ | refine Below.alloc ?_ (by first | (simp; done) | (simp; omega) | omega) _ | refine Below.trans ?_ (Below.mono (by assumption) (by first | (simp; done) | (simp; omega) | omega))))
    have A1 := Lib.hid ((At.new w vg vt 45).below hb1)
    obtain ⟨b, off, cap, rfl, hl2, hmx, hc⟩ := tiles_open HT.out (by omega)
    unfold maxLen at hmx
    have HC := Lib.hid hc
    clear hb1 hc
    generalize hn : S.ts.length = n at *
    have hrow := zeroM_row w1
    have z1 := B1.size
    have B2 : Below w.heap.size w (w1.alloc (.cells Try.zeroCells104 104)) := by (repeat (first | exact Below.refl _ _ | refine Below.setCell ?_ (by first | (simp; done) | (simp; omega) | omega) _ | refine belowN ?_ _ | refine Below.drew ?_ | refine Below.alloc ?_ (by first | (simp; done) | (simp; omega) | omega) _ | refine Below.trans ?_ (Below.mono (by assumption) (by first | (simp; done) | (simp; omega) | omega))))
    have A2 := A1.out.below (w1 := w1.alloc (.cells Try.zeroCells104 104)) (by (repeat (first | exact Below.refl _ _ | refine Below.setCell ?_ (by first | (simp; done) | (simp; omega) | omega) _ | refine belowN ?_ _ | refine Below.drew ?_ | refine Below.alloc ?_ (by first | (simp; done) | (simp; omega) | omega) _ | refine Below.trans ?_ (Below.mono (by assumption) (by first | (simp; done) | (simp; omega) | omega)))))
    have HROW := Lib.hid hrow
    have HA2 := Lib.hid A2
    have hbx : w.heap.size < w1.heap.size := A1.out.lt
    obtain ⟨k0, k1⟩ := A2
    clear hrow
    go_wp2_with fail
    clear k0 k1
    generalize w1.heap.size = bx at *
    go_loopw [20] (fun x wr => ∃ i : Nat, i ≤ n ∧ x = .int .i64 i ∧ wr.rowIs bx 104 804 (fun q => .bool (tabB S (i * 4) q)) ∧ At wr w.heap.size vg (.slice (some ⟨b, off, none⟩) n cap) ∧ Below w.heap.size w wr) (fun x _ => n - (intOf x).toNat)
    case atStart => exact ⟨0, by omega, rfl, HROW.out.congr fun q _ => by simp [tabB], HA2.out, B2⟩
    case round =>
      clear HROW HA2 B2
      obtain ⟨i, hi, rfl, hrow, hat, hbw⟩ := hrel
      have HR := Lib.hid hrow
      have HA := Lib.hid hat
      have sw := hbw.size
      have la := hat.lt
      clear hrow
      obtain ⟨k0, k1⟩ := hat
      by_cases hlt : i < n
      · obtain ⟨b2, o2, c, c0, c1, hc4, hcm, hcc⟩ := HC.out i hlt (HV.out.sides (by omega))
        have HCC := Lib.hid hcc
        have c0 := cell_below hbw c0
        have c1 := cell_below hbw c1
        unfold maxLen at hcm
        clear hcc k0 k1
        go_wp2_with fail
        go_loopw [27] (fun x wr => ∃ d : Nat, d ≤ 4 ∧ x = .int .i64 d ∧ wr.rowIs bx 104 804 (fun q => .bool (tabB S (i * 4 + d) q)) ∧ At wr w.heap.size vg (.slice (some ⟨b, off, none⟩) n cap) ∧ Below w.heap.size w wr) (fun x _ => 4 - (intOf x).toNat)
        case atStart => exact ⟨0, by omega, rfl, HR.out.of_block ((show Below wr.heap.size wr (wr.alloc (.cells #[.string (tN S.ts i), .slice (some ⟨b2, o2, none⟩) 4 c] 80)) by (repeat (first | exact Below.refl _ _ | refine Below.setCell ?_ (by first | (simp; done) | (simp; omega) | omega) _ | refine belowN ?_ _ | refine Below.drew ?_ | refine Below.alloc ?_ (by first | (simp; done) | (simp; omega) | omega) _ | refine Below.trans ?_ (Below.mono (by assumption) (by first | (simp; done) | (simp; omega) | omega))))).block _ HR.out.lt), HA.out.below (by (repeat (first | exact Below.refl _ _ | refine Below.setCell ?_ (by first | (simp; done) | (simp; omega) | omega) _ | refine belowN ?_ _ | refine Below.drew ?_ | refine Below.alloc ?_ (by first | (simp; done) | (simp; omega) | omega) _ | refine Below.trans ?_ (Below.mono (by assumption) (by first | (simp; done) | (simp; omega) | omega))))), by (repeat (first | exact Below.refl _ _ | refine Below.setCell ?_ (by first | (simp; done) | (simp; omega) | omega) _ | refine belowN ?_ _ | refine Below.drew ?_ | refine Below.alloc ?_ (by first | (simp; done) | (simp; omega) | omega) _ | refine Below.trans ?_ (Below.mono (by assumption) (by first | (simp; done) | (simp; omega) | omega))))⟩
        case round =>
          clear HR HA hbw sw la c0 c1
          obtain ⟨d, hd, rfl, hrow, hat, hbw⟩ := hrel
          have HR := Lib.hid hrow
          have HA := Lib.hid hat
          have sw := hbw.size
          have la := hat.lt
          by_cases hd4 : d < 4
          · have hsd := HV.out.side (k := i) (m := d) (by omega) hd4
            have h200 := HV.out.g.len
            obtain ⟨g, hg⟩ : ∃ g : Nat, sideZ S i d = (g : Int) := ⟨(sideZ S i d).toNat, by omega⟩
            have HG := Lib.hid hg
            have c2 : _ = some (Value.int .i64 (sideZ S i d)) := cell_below hbw (HCC.out d hd4)
            rw [hg] at c2
            have hg2 : g ≤ 200 := by omega
            have hgi : (g : Int) < 201 := by omega
            have hd4i : (d : Int) < 4 := by omega
            have t0 := hrow.cell (i := d * 201 + g) (by omega)
            have z0 := hrow.frozen (d * 201 + g)
            clear hsd hg hrow hat
            go_wp2_with fail
            go_roundw
            case rel => exact ⟨d + 1, by omega, by go_num, (HR.out.set (d * 201 + g) _).congr fun q _ => tab_side S hd4 HG.out q, ⟨skeep HA.out.1 (by dsimp only; omega), skeep HA.out.2 (by dsimp only; omega)⟩, by (repeat (first | exact Below.refl _ _ | refine Below.setCell ?_ (by first | (simp; done) | (simp; omega) | omega) _ | refine belowN ?_ _ | refine Below.drew ?_ | refine Below.alloc ?_ (by first | (simp; done) | (simp; omega) | omega) _ | refine Below.trans ?_ (Below.mono (by assumption) (by first | (simp; done) | (simp; omega) | omega))))⟩
            case measure => simp [intOf]; omega
          · obtain rfl : d = 4 := by omega
            clear hrow hat
            go_wp2_with fail
            go_roundw
            case rel => exact ⟨i + 1, by omega, by go_num, by rw [show (i + 1) * 4 = i * 4 + 4 by omega]; exact HR.out, HA.out, hbw⟩
            case measure => simp [intOf]; omega
      · obtain rfl : i = n := by omega
        go_wp2_with fail
        clear k0 k1
        go_loopw [9, 41] (fun ct x ws => ∃ j : Nat, j ≤ i ∧ x = .int .i64 j ∧ ct = .int .i64 ((loN S i (j * 4) : Nat) : Int) ∧ ws.rowIs bx 104 804 (fun q => .bool (tabB S (i * 4) q)) ∧ Below w.heap.size w ws) (fun _ x _ => i - (intOf x).toNat)
        case atStart => exact ⟨0, by omega, rfl, rfl, HR.out, hbw⟩
        case round =>
          clear HR HA hbw sw la
          obtain ⟨j, hj, rfl, rfl, hrow, hbw⟩ := hrel
          have HR := Lib.hid hrow
          have sw := hbw.size
          clear hrow
          by_cases hlj : j < i
          · obtain ⟨b2, o2, c, c0, c1, hc4, hcm, hcc⟩ := HC.out j hlj (HV.out.sides (by omega))
            have HCC := Lib.hid hcc
            have c0 := cell_below hbw c0
            have c1 := cell_below hbw c1
            unfold maxLen at hcm
            clear hcc
            have hle := loN_le S i (j * 4)
            go_wp2_with fail
            go_loopw [9, 48] (fun ct x ws => ∃ d : Nat, d ≤ 4 ∧ x = .int .i64 d ∧ ct = .int .i64 ((loN S i (j * 4 + d) : Nat) : Int) ∧ ws.rowIs bx 104 804 (fun q => .bool (tabB S (i * 4) q)) ∧ Below w.heap.size w ws) (fun _ x _ => 4 - (intOf x).toNat)
            case atStart => exact ⟨0, by omega, rfl, rfl, HR.out.of_block ((show Below wr.heap.size wr (wr.alloc (.cells #[.string (tN S.ts j), .slice (some ⟨b2, o2, none⟩) 4 c] 80)) by (repeat (first | exact Below.refl _ _ | refine Below.setCell ?_ (by first | (simp; done) | (simp; omega) | omega) _ | refine belowN ?_ _ | refine Below.drew ?_ | refine Below.alloc ?_ (by first | (simp; done) | (simp; omega) | omega) _ | refine Below.trans ?_ (Below.mono (by assumption) (by first | (simp; done) | (simp; omega) | omega))))).block _ HR.out.lt), by (repeat (first | exact Below.refl _ _ | refine Below.setCell ?_ (by first | (simp; done) | (simp; omega) | omega) _ | refine belowN ?_ _ | refine Below.drew ?_ | refine Below.alloc ?_ (by first | (simp; done) | (simp; omega) | omega) _ | refine Below.trans ?_ (Below.mono (by assumption) (by first | (simp; done) | (simp; omega) | omega))))⟩
            case round =>
              clear HR hbw sw c0 c1
              obtain ⟨d, hd, rfl, rfl, hrow, hbw⟩ := hrel
              have HR := Lib.hid hrow
              have sw := hbw.size
              by_cases hd4 : d < 4
              · have hsd := HV.out.side (k := j) (m := d) (by omega) hd4
                have h200 := HV.out.g.len
                obtain ⟨g, hg⟩ : ∃ g : Nat, sideZ S j d = (g : Int) := ⟨(sideZ S j d).toNat, by omega⟩
                have HG := Lib.hid hg
                have c2 : _ = some (Value.int .i64 (sideZ S j d)) := cell_below hbw (HCC.out d hd4)
                rw [hg] at c2
                have hg2 : g ≤ 200 := by omega
                have hgi : (g : Int) < 201 := by omega
                have hd4i : (d : Int) < 4 := by omega
                have hopp := oppZ_N hd4
                have hop4 := oppN_lt d
                have hop5 : ((oppN d : Nat) : Int) < 4 := by omega
                have HSD := Lib.hid (loN_side S i j d hd4)
                have hle2 := loN_le S i (j * 4 + d)
                have ew : IntKind.i64.wrap (((loN S i (j * 4 + d) : Nat) : Int) + 1) = ((loN S i (j * 4 + d) : Nat) : Int) + 1 := IntWalk.i64_in _ (by omega)
                by_cases hg0 : g = 0
                · subst hg0
                  have HM := Lib.hid (met_zero HG.out i)
                  clear hsd hg hrow
                  go_wp2_with fail
                  go_roundw
                  case rel => exact ⟨d + 1, by omega, by go_num, by rw [show j * 4 + (d + 1) = j * 4 + d + 1 by omega, HSD.out, HM.out]; rfl, HR.out, hbw⟩
                  case measure => simp [intOf]; omega
                · have HM := Lib.hid (show metB S j d i = tabB S (i * 4) (oppN d * 201 + g) by have := tab_met HV.out HG.out hg0 hg2; rw [hn] at this; exact this)
                  have t0 := hrow.cell (i := oppN d * 201 + g) (by omega)
                  clear hsd hg hrow
                  cases ht : tabB S (i * 4) (oppN d * 201 + g)
                  · have HTT := Lib.hid ht
                    rw [ht] at t0
                    clear ht
                    go_wp2_with (go_at_call 77; refine (implOpp_any _ _).mono ?_; rintro e w' ⟨rfl, rfl⟩; rw [hopp])
                    go_roundw
                    case rel => exact ⟨d + 1, by omega, by go_num, by rw [show j * 4 + (d + 1) = j * 4 + d + 1 by omega, HSD.out, HM.out, HTT.out]; go_num, HR.out, hbw⟩
                    case measure => simp [intOf]; omega
                  · have HTT := Lib.hid ht
                    rw [ht] at t0
                    clear ht
                    go_wp2_with (go_at_call 77; refine (implOpp_any _ _).mono ?_; rintro e w' ⟨rfl, rfl⟩; rw [hopp])
                    go_roundw
                    case rel => exact ⟨d + 1, by omega, by go_num, by rw [show j * 4 + (d + 1) = j * 4 + d + 1 by omega, HSD.out, HM.out, HTT.out]; rfl, HR.out, hbw⟩
                    case measure => simp [intOf]; omega
              · obtain rfl : d = 4 := by omega
                clear hrow
                go_wp2_with fail
                go_roundw
                case rel => exact ⟨j + 1, by omega, by go_num, by rw [show (j + 1) * 4 = j * 4 + 4 by omega], HR.out, hbw⟩
                case measure => simp [intOf]; omega
          · obtain rfl : j = i := by omega
            go_wp2_with fail
            go_ret2
            exact ⟨by rw [K.out.1, K.out.2]; rfl, hbw⟩

end Go.Proofs.Ytaeaflbmaokieab
