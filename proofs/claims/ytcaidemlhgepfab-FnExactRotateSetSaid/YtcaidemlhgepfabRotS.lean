/-
  RotateSet of the model. Conditions: each theorem's own.
-/
import Derived.Test.YtcaidemlhgepfabMirS
import Derived.Test.YtcaidemlhgepfabRotI
namespace Go.Proofs.Ytcaidemlhgepfab
open Go.RowKit

/-- The sides while d of them have been turned by q quarters. -/
def rotPart (zs : List Int) (q d : Nat) : List Int := (List.range 4).map fun j => if (j + 4 - q) % 4 < d then iAt zs ((j + 4 - q) % 4) else iAt zs j
theorem rotPart_len (zs : List Int) (q d : Nat) : (rotPart zs q d).length = 4 := by simp [rotPart]
theorem rotPart_at (zs : List Int) (q d j : Nat) (h : j < 4) : iAt (rotPart zs q d) j = if (j + 4 - q) % 4 < d then iAt zs ((j + 4 - q) % 4) else iAt zs j := by simp [rotPart, iAt, h]
theorem list4 {zs : List Int} (h : zs.length = 4) : [iAt zs 0, iAt zs 1, iAt zs 2, iAt zs 3] = zs := by
  match zs, h with
  | [a, b, c, d], _ => rfl
theorem rotPart_0 (zs : List Int) (q : Nat) (h : zs.length = 4) : rotPart zs q 0 = zs := by
  conv => rhs; rw [← list4 h]
  rfl
theorem rotPart_4 (zs : List Int) (q : Nat) (hq : q < 4) : rotPart zs q 4 = rot zs q := by
  obtain rfl | rfl | rfl | rfl : q = 0 ∨ q = 1 ∨ q = 2 ∨ q = 3 := by omega
  all_goals rfl
/-- The sides of all tiles while the first k have been turned, and of the next one d. -/
def rotMid (ts : List Tl) (q k d i : Nat) : List Int := if i < k then rot (tS ts i) q else if i = k then rotPart (tS ts i) q d else tS ts i

theorem rotMid_0 (ts : List Tl) (q k : Nat) (h : ∀ i, i < ts.length → (tS ts i).length = 4) (i : Nat) (hi : i < ts.length) : (if i < k then rot (tS ts i) q else tS ts i) = rotMid ts q k 0 i := by
  unfold rotMid
  by_cases h1 : i < k
  · rw [if_pos h1, if_pos h1]
  · rw [if_neg h1, if_neg h1]
    by_cases h2 : i = k
    · rw [if_pos h2, rotPart_0 _ _ (h i hi)]
    · rw [if_neg h2]
theorem rotMid_4 (ts : List Tl) (q k : Nat) (hq : q < 4) (i : Nat) : rotMid ts q k 4 i = (if i < k + 1 then rot (tS ts i) q else tS ts i) := by
  unfold rotMid
  by_cases h1 : i < k
  · rw [if_pos h1, if_pos (by omega)]
  · rw [if_neg h1]
    by_cases h2 : i = k
    · rw [if_pos h2, if_pos (by omega), rotPart_4 _ _ hq]
    · rw [if_neg h2, if_neg (by omega)]
/-- What a slice of four numbers of a call's own is. -/
theorem OwnAt.four {w : World} {g : Nat} {v : Value} {zs : List Int} (h : OwnAt w g v zs) (h4 : zs.length = 4) : ∃ cap f, v = .slice (some ⟨g, 0, none⟩) 4 cap ∧ 4 ≤ cap ∧ cap ≤ maxLen ∧ w.rowIs g 2 cap f ∧ ∀ i, i < 4 → f i = .int .i64 (iAt zs i) := by
  rcases h with ⟨-, h0⟩ | ⟨cap, f, h1, h2, h3, h5, h6⟩
  · omega
  · rw [h4] at h1 h2 h6
    exact ⟨cap, f, h1, h2, h3, h5, h6⟩
/-- One side more has been turned. -/
theorem rot_step {w : World} {g b cap n q k d : Nat} {G : Nat → Nat} {sv : Nat → Value} {N : Nat → ByteArray} {ts : List Tl} {lo hi : Nat} (h : TsAt w g G sv cap n N (rotMid ts q k d)) (ha : Apart g G n lo hi) (hk : k < n) (hd : d < 4) (hq : q < 4)
    (hb : G k = b) (r : Nat) (hr : r = (d + q) % 4) : TsAt (w.setCell ⟨b, r, none⟩ (.int .i64 (iAt (tS ts k) d))) g G sv cap n N (rotMid ts q k (d + 1)) := by
  subst hb
  have hs := h.side k hk
  have e1 : rotMid ts q k d k = rotPart (tS ts k) q d := by simp [rotMid]
  rw [e1] at hs
  obtain ⟨c, f, hv, hc1, hc2, hrow, hf⟩ := hs.four (rotPart_len _ _ _)
  have hz : OwnAt (w.setCell ⟨G k, r, none⟩ (.int .i64 (iAt (tS ts k) d))) (G k) (sv k) (rotPart (tS ts k) q (d + 1)) := by
    refine .inr ⟨c, _, by rw [rotPart_len]; exact hv, by rw [rotPart_len]; exact hc1, hc2, hrow.set r _, fun i hi => ?_⟩
    rw [rotPart_len] at hi
    rw [rotPart_at _ _ _ _ hi]
    by_cases hir : i = r
    · subst hir
      rw [if_pos rfl, if_pos (by omega)]
      congr 2
      omega
    · rw [if_neg hir, hf i hi, rotPart_at _ _ _ _ hi]
      have : ((i + 4 - q) % 4 < d + 1) = ((i + 4 - q) % 4 < d) := by
        apply propext
        constructor
        · intro hlt
          by_cases e : (i + 4 - q) % 4 = d
          · exact absurd (by omega) hir
          · omega
        · omega
      simp only [this]
  have h2 := h.sides ha hk (Within.set (G k) (G k + 1) w (a := ⟨G k, r, none⟩) (Nat.le_refl _) (Nat.lt_succ_self _) (.int .i64 (iAt (tS ts k) d))) hz
  obtain ⟨hrow2, hside⟩ := h2
  refine ⟨hrow2, fun i hi => ?_⟩
  have := hside i hi
  have e : (if i = k then rotPart (tS ts k) q (d + 1) else rotMid ts q k d i) = rotMid ts q k (d + 1) i := by
    by_cases h1 : i = k
    · subst h1; simp [rotMid]
    · simp [rotMid, h1]
  simp only [e] at this
  exact this

set_option maxRecDepth 100000 in
set_option maxHeartbeats 8000000 in
theorem specRotateSet_any (vg vt : Value) (S : Set_) (q : Int) (w : World) (hS : SetIn w vg vt S) (hsol : ∃ ad n cap, vg = .slice (some ad) n cap) (ok : S.ok) (hs : S.small) :
    Calls Try.prog 24 #[.agg #[vg, vt], .int .i64 q] w fun e w' => SetPost w (ro1 S q) (ro2 S q) e w' ∧ Below w.heap.size w w' := by
  have HS := Lib.hid hS
  have hgl := hs.gl
  have htl := hs.tl
  clear hS
  cases hv : validB S
  · have K := Lib.hid (show ro1 S q = ⟨[], []⟩ ∧ ro2 S q = 1 by simp [ro1, ro2, hv])
    go_enter Try.func24, Try.ntmps24
    go_wp2_with fail
    refine (l02Ok_any w.heap.size vg vt S _ ⟨by simp [go_sem], by simp [go_sem]⟩ (HS.out.below (by (repeat (first | exact Below.refl _ _ | refine Below.setCell ?_ (by first | (simp; done) | (simp; omega) | omega) _ | refine belowN ?_ _ | refine Below.drew ?_ | refine Below.alloc ?_ (by first | (simp; done) | (simp; omega) | omega) _ | refine Below.trans ?_ (Below.mono (by assumption) (by first | (simp; done) | (simp; omega) | omega)))))) ok hs).mono ?_
    rintro e w1 ⟨rfl, hb1⟩
    obtain ⟨hc1, hf1, hl1, -⟩ := bfull hb1
    go_wp2_with fail
    refine bodyPost_ret (v := .tuple #[.agg #[.slice none 0 0, .slice none 0 0], .int .i64 1]) ?_ rfl ⟨⟨_, _, by rw [K.out.2], ?_⟩, by (repeat (first | exact Below.refl _ _ | refine Below.setCell ?_ (by first | (simp; done) | (simp; omega) | omega) _ | refine belowN ?_ _ | refine Below.drew ?_ | refine Below.alloc ?_ (by first | (simp; done) | (simp; omega) | omega) _ | refine Below.trans ?_ (Below.mono (by assumption) (by first | (simp; done) | (simp; omega) | omega))))⟩
    · simp [results, Try.results24, go_sem, hc1]
    · rw [K.out.1]
      exact ⟨w.heap.size, w.heap.size, w.heap.size, w.heap.size, Nat.le_refl _, by have := hb1.size; simp at this; simp; omega, Nat.le_refl _, by have := hb1.size; simp at this; simp; omega, .inl (Nat.le_refl _), .inl ⟨rfl, rfl⟩, .inl ⟨rfl, rfl⟩⟩
  · cases hin : inB q 0 3
    · have K := Lib.hid (show ro1 S q = ⟨[], []⟩ ∧ ro2 S q = 2 by
        have h1 : ¬ (0 ≤ q ∧ q ≤ 3) := fun h => by rw [inB_yes h.1 h.2] at hin; exact absurd hin (by simp)
        simp [ro1, ro2, hv, h1])
      go_enter Try.func24, Try.ntmps24
      go_wp2_with fail
      refine (l02Ok_any w.heap.size vg vt S _ ⟨by simp [go_sem], by simp [go_sem]⟩ (HS.out.below (by (repeat (first | exact Below.refl _ _ | refine Below.setCell ?_ (by first | (simp; done) | (simp; omega) | omega) _ | refine belowN ?_ _ | refine Below.drew ?_ | refine Below.alloc ?_ (by first | (simp; done) | (simp; omega) | omega) _ | refine Below.trans ?_ (Below.mono (by assumption) (by first | (simp; done) | (simp; omega) | omega)))))) ok hs).mono ?_
      rintro e w1 ⟨rfl, hb1⟩
      obtain ⟨hc1, hf1, hl1, -⟩ := bfull hb1
      go_wp2_with fail
      refine (l00In_any _ _ _ _).mono ?_
      rintro e w2 ⟨rfl, rfl⟩
      rw [hin]
      go_wp2_with fail
      refine bodyPost_ret (v := .tuple #[.agg #[.slice none 0 0, .slice none 0 0], .int .i64 2]) ?_ rfl ⟨⟨_, _, by rw [K.out.2], ?_⟩, by (repeat (first | exact Below.refl _ _ | refine Below.setCell ?_ (by first | (simp; done) | (simp; omega) | omega) _ | refine belowN ?_ _ | refine Below.drew ?_ | refine Below.alloc ?_ (by first | (simp; done) | (simp; omega) | omega) _ | refine Below.trans ?_ (Below.mono (by assumption) (by first | (simp; done) | (simp; omega) | omega))))⟩
      · simp [results, Try.results24, go_sem, hc1]
      · rw [K.out.1]
        exact ⟨w.heap.size, w.heap.size, w.heap.size, w.heap.size, Nat.le_refl _, by have := hb1.size; simp at this; simp; omega, Nat.le_refl _, by have := hb1.size; simp at this; simp; omega, .inl (Nat.le_refl _), .inl ⟨rfl, rfl⟩, .inl ⟨rfl, rfl⟩⟩
    have hin' := inB_iff.1 hin
    obtain ⟨p, rfl⟩ := Int.eq_ofNat_of_zero_le hin'.1
    have hp4 : p < 4 := by omega
    have K := Lib.hid (show ro1 S (p : Int) = rotS S p ∧ ro2 S (p : Int) = 0 by simp [ro1, ro2, hv]; omega)
    clear hin'
    have V := Lib.hid (validB_iff.1 hv)
    go_enter Try.func24, Try.ntmps24
    go_wp2_with fail
    refine (l02Ok_any w.heap.size vg vt S _ ⟨by simp [go_sem], by simp [go_sem]⟩ (HS.out.below (by (repeat (first | exact Below.refl _ _ | refine Below.setCell ?_ (by first | (simp; done) | (simp; omega) | omega) _ | refine belowN ?_ _ | refine Below.drew ?_ | refine Below.alloc ?_ (by first | (simp; done) | (simp; omega) | omega) _ | refine Below.trans ?_ (Below.mono (by assumption) (by first | (simp; done) | (simp; omega) | omega)))))) ok hs).mono ?_
    rintro e w1 ⟨rfl, hb1⟩
    have B1 : Below w.heap.size w w1 := by (repeat (first | exact Below.refl _ _ | refine Below.setCell ?_ (by first | (simp; done) | (simp; omega) | omega) _ | refine belowN ?_ _ | refine Below.drew ?_ | refine Below.alloc ?_ (by first | (simp; done) | (simp; omega) | omega) _ | refine Below.trans ?_ (Below.mono (by assumption) (by first | (simp; done) | (simp; omega) | omega))))
    have T1 := Lib.hid (((Two.new w vg vt 35 rfl).alloc (.cells #[.slice none 0 0, .slice none 0 0] 35)).below hb1)
    have R1 := Lib.hid ((Two.new (w.alloc (.cells #[vg, vt] 35)) (.slice none 0 0) (.slice none 0 0) 35 (n := w.heap.size + 1) (by simp)).below hb1)
    have s1 : w.heap.size + 2 ≤ w1.heap.size := by have := hb1.size; simp at this; omega
    clear hb1
    go_wp2_with fail
    refine (l00In_any _ _ _ _).mono ?_
    rintro e w0 ⟨rfl, rfl⟩
    rw [hin]
    clear hin
    go_wp2_with fail
    refine (l02Own_any w.heap.size vg vt S _ ⟨T1.out.c0, T1.out.c1⟩ (HS.out.below B1) hsol V.out hs).mono ?_
    rintro e w2 ⟨⟨og, ot, qm, rfl, hqa, hqd, hG0, hT0⟩, hb2⟩
    have B2 : Below w.heap.size w w2 := by (repeat (first | exact Below.refl _ _ | refine Below.setCell ?_ (by first | (simp; done) | (simp; omega) | omega) _ | refine belowN ?_ _ | refine Below.drew ?_ | refine Below.alloc ?_ (by first | (simp; done) | (simp; omega) | omega) _ | refine Below.trans ?_ (Below.mono (by assumption) (by first | (simp; done) | (simp; omega) | omega))))
    have T2 := Lib.hid (T1.out.below hb2)
    have R2 := Lib.hid (R1.out.below hb2)
    have s2 : w1.heap.size ≤ w2.heap.size := hb2.size
    obtain ⟨ga, gn, gc, rfl⟩ := hG0.shape
    obtain ⟨ta, tn, tc, rfl⟩ : ∃ ta tn tc, ot = .slice ta tn tc := by
      obtain ⟨_, ⟨ta, tc, h, -⟩, -⟩ := hT0.tiles
      exact ⟨ta, _, tc, h⟩
    clear hb2
    have HG1 := Lib.hid hG0
    have HT1 := Lib.hid hT0
    clear hG0 hT0
    go_wp2_with fail
    have hT0 := HT1.out
    obtain ⟨g, G, sv, cap, hvv, hlc, hcm0, hts, hapt⟩ : ∃ g G sv cap, Value.slice ta tn tc = .slice (some ⟨g, 0, none⟩) S.ts.length cap ∧ S.ts.length ≤ cap ∧ cap ≤ maxLen ∧ TsAt w2 g G sv cap S.ts.length (tN S.ts) (tS S.ts) ∧ Apart g G S.ts.length qm w2.heap.size := by
      rcases hT0 with ⟨-, h0⟩ | h
      · have := V.out.t.one; omega
      · exact h
    simp at hvv
    obtain ⟨rfl, rfl, rfl⟩ := hvv
    have hg0 := hapt.g0
    have hg1 := hapt.g1
    have s2' : w.heap.size < w2.heap.size := by omega
    have HTS := Lib.hid ((hts.below (w1 := w2.alloc (.cells #[.slice ga gn gc, .slice (some ⟨g, 0, none⟩) S.ts.length tc] 35)) (by (repeat (first | exact Below.refl _ _ | refine Below.setCell ?_ (by first | (simp; done) | (simp; omega) | omega) _ | refine belowN ?_ _ | refine Below.drew ?_ | refine Below.alloc ?_ (by first | (simp; done) | (simp; omega) | omega) _ | refine Below.trans ?_ (Below.mono (by assumption) (by first | (simp; done) | (simp; omega) | omega)))))).congrZ (Z' := fun i => if i < 0 then rot (tS S.ts i) p else tS S.ts i) (fun _ _ => rfl) (fun i _ => (if_neg (Nat.not_lt_zero i)).symm))
    have HAP := Lib.hid hapt
    clear hT0 hts hapt
    obtain ⟨k0, k1, -, -⟩ := T2.out
    obtain ⟨svt, ⟨bo, bcap, hvt, hl2, hmx, -⟩, -⟩ := HS.out.t
    rw [hvt] at k1
    go_wp2_with fail
    go_loopw [7] (fun i wr => ∃ (k : Nat), k ≤ S.ts.length ∧ i = .int .i64 k ∧ Two wr w2.heap.size (.slice ga gn gc) (.slice (some ⟨g, 0, none⟩) S.ts.length tc) ∧ TsAt wr g G sv tc S.ts.length (tN S.ts) (fun i => if i < k then rot (tS S.ts i) p else tS S.ts i) ∧ Within qm w2.heap.size w2 wr) (fun i _ => S.ts.length - (intOf i).toNat)
    case atStart => exact ⟨0, by omega, rfl, Two.new _ _ _ _ rfl, HTS.out, Within.of (by (repeat (first | exact Below.refl _ _ | refine Below.setCell ?_ (by first | (simp; done) | (simp; omega) | omega) _ | refine belowN ?_ _ | refine Below.drew ?_ | refine Below.alloc ?_ (by first | (simp; done) | (simp; omega) | omega) _ | refine Below.trans ?_ (Below.mono (by assumption) (by first | (simp; done) | (simp; omega) | omega)))))⟩
    case round =>
      obtain ⟨k, hk, rfl, hT, hTS, hwi⟩ := hrel
      have BW : Below w.heap.size w wr := B2.trans (hwi.belowK (by omega) (by omega))
      obtain ⟨m0, m1, -, -⟩ := id hT
      have HTr := Lib.hid hT
      have HWr := Lib.hid hwi
      by_cases hlt : k < S.ts.length
      · have HTSk := Lib.hid (hTS.congrZ (fun _ _ => rfl) (fun i hi => rotMid_0 S.ts p k (fun i hi => V.out.sides hi) i hi))
        clear hTS hT hwi
        go_wp2_with fail
        go_loopw [8] (fun i wu => ∃ (m : Nat), m ≤ 4 ∧ i = .int .i64 m ∧ Two wu w2.heap.size (.slice ga gn gc) (.slice (some ⟨g, 0, none⟩) S.ts.length tc) ∧ TsAt wu g G sv tc S.ts.length (tN S.ts) (rotMid S.ts p k m) ∧ Within qm w2.heap.size w2 wu) (fun i _ => 4 - (intOf i).toNat)
        case atStart => exact ⟨0, by omega, rfl, HTr.out, HTSk.out, HWr.out⟩
        case round =>
          clear m0 m1 HTSk HTr HWr BW
          obtain ⟨m, hm4, rfl, hT, hTS, hwi⟩ := hrel
          have BW := B2.trans (hwi.belowK (by omega) (by omega))
          have HTr := Lib.hid hT
          have HWr := Lib.hid hwi
          have HTSk := Lib.hid hTS
          by_cases hlt4 : m < 4
          · obtain ⟨m0, m1, -, -⟩ := id hT
            obtain ⟨p0, p1, -, -⟩ := T2.out.within hwi (.inl (by omega))
            rw [hvt] at p1
            obtain ⟨b, off, cap2, hvt2, hl3, hmx3, hc⟩ := tiles_open HS.out.t (by omega)
            obtain ⟨b2, o2, c, c0, c1, hc4, hcm, hcc⟩ := hc k hlt (V.out.sides hlt)
            have d1 := cell_below BW c1
            have e0 := cell_below BW (hcc m hlt4)
            have hv2 := hvt.symm.trans hvt2
            simp at hv2
            obtain ⟨rfl, rfl⟩ := hv2
            obtain ⟨f, hr, hf⟩ := id hTS.row
            have x1 := hr.cell (i := k * 2 + 1) (by omega)
            have hside := hTS.side k hlt
            have e1 : rotMid S.ts p k m k = rotPart (tS S.ts k) p m := by simp [rotMid]
            rw [e1] at hside
            obtain ⟨c3, f3, hv3, hc31, hc32, hrow3, hf3⟩ := hside.four (rotPart_len _ _ _)
            rw [(hf k hlt).2, hv3] at x1
            have hGk0 := HAP.out.G0 k hlt
            have hGk1 := HAP.out.G1 k hlt
            have hGkg := HAP.out.ne k hlt
            obtain ⟨bk, hbk⟩ : ∃ bk, bk = G k := ⟨_, rfl⟩
            rw [← hbk] at x1 hrow3 hGk0 hGk1 hGkg
            have HBK := Lib.hid hbk.symm
            have y0 := fun i (hi : i < 4) => hrow3.cell (i := i) (by omega)
            have z0 := hrow3.frozen
            have hb2w : b2 < w.heap.size := World.block_lt_of_cell? w ⟨b2, o2 + m, none⟩ (hcc m hlt4)
            have hbw : b < w.heap.size := World.block_lt_of_cell? w _ c1
            unfold maxLen at hmx3 hcm hcm0 hc32
            clear hc c0 c1 hvt hvt2 hcc hT hTS hwi hr hf hside hrow3 hf3 hv3 hbk e1 m0 p0
            go_wp2_with fail
            obtain ⟨s, hs4⟩ : ∃ s, s = m + p := ⟨_, rfl⟩
            obtain ⟨r, hr4⟩ : ∃ r, r = s % 4 := ⟨_, rfl⟩
            have hr5 : r < 4 := by omega
            have hw1 : IntKind.i64.wrap ((m : Int) + (p : Int)) = (s : Int) := by rw [hs4]; exact (IntWalk.i64_in _ (by omega)).trans (by omega)
            have hw2 : ((s : Int)).tmod 4 = (r : Int) := by rw [hr4, Int.tmod_eq_emod_of_nonneg (by omega)]; omega
            have y1 := y0 r hr5
            have z1 := z0 r
            have hr6 : (r : Int) < 4 := by omega
            have hr7 : (0 : Int) ≤ r := by omega
            have HR4 := Lib.hid (show r = (m + p) % 4 by rw [hr4, hs4])
            have hm6 : (m : Int) < 4 := by omega
            have hk6 : (k : Int) < S.ts.length := by omega
            clear y0 z0 hs4 hr4
            go_region_held3 (fun w' => w'.cell? ⟨w2.heap.size, 1, none⟩ = some (.slice (some ⟨g, 0, none⟩) S.ts.length tc) ∧ w'.cell? ⟨g, k * 2 + 1, none⟩ = some (.slice (some ⟨bk, 0, none⟩) 4 c3) ∧ w'.cell? ⟨w.heap.size, 1, none⟩ = some (.slice (some ⟨b, off, none⟩) S.ts.length bcap) ∧ w'.cell? ⟨b, off + k * 2 + 1, none⟩ = some (.slice (some ⟨b2, o2, none⟩) 4 c) ∧ w'.cell? ⟨b2, o2 + m, none⟩ = some (.int .i64 (iAt (tS S.ts k) m))) ((((try go_split_ands); (try dsimp only); (repeat' apply And.intro)) <;> (repeat (first | with_reducible assumption | ((with_reducible refine gkeep hgrow4 ?_ ?_); rotate_left; with_reducible assumption) | ((with_reducible refine gfkeep hgrow4 ?_ ?_ ?_); rotate_left; (first | ((try dsimp only); omega) | (simp; done) | (simp; omega)); with_reducible assumption) | ((with_reducible refine afkeep ?_ ?_); rotate_left; (first | ((try dsimp only); omega) | (simp; done) | (simp; omega))) | (with_reducible refine dfkeep ?_) | ((with_reducible refine bfkeep hb3 ?_ ?_); rotate_left; (first | ((try dsimp only); omega) | (simp; done) | (simp; omega))) | ((with_reducible refine cnew0 ?_); simp; done) | ((with_reducible refine cnew1 ?_); simp; done) | (with_reducible refine akeep ?_) | (with_reducible refine dkeep ?_) | ((with_reducible refine skeep ?_ ?_); rotate_left; (first | ((try dsimp only); omega) | (simp; done) | (simp; omega))) | (with_reducible refine bkeep hb3 ?_))))) (fail)
            all_goals go_wp2_with fail
            case roundEnd =>
              have r1 := rot_step HTSk.out HAP.out hlt hlt4 hp4 HBK.out r HR4.out
              have r3 := HWr.out.trans (Within.set qm w2.heap.size wr (a := ⟨bk, r, none⟩) hGk0 hGk1 (.int .i64 (iAt (tS S.ts k) m)))
              exact ⟨⟨m + 1, by omega, by simp, (HTr.out.far (by dsimp only; omega) _).drew, ⟨r1.row, r1.side⟩, ⟨r3.os, r3.tape, r3.output, r3.size, r3.block⟩⟩, by simp [intOf]; omega⟩
          · obtain rfl : m = 4 := by omega
            clear hT hTS hwi
            go_wp2_with fail
            go_roundw
            case rel => exact ⟨k + 1, by omega, by go_num, HTr.out, HTSk.out.congrZ (fun _ _ => rfl) (fun i _ => rotMid_4 S.ts p k hp4 i), HWr.out⟩
            case measure => simp [intOf]; omega
      · obtain rfl : k = S.ts.length := by omega
        have HB : Hid (OwnTs wr qm w2.heap.size (.slice (some ⟨g, 0, none⟩) S.ts.length tc) (rotS S p).ts) := by
          have e : (rotS S p).ts.length = S.ts.length := rotTs_len S.ts p
          refine .inr ⟨g, G, sv, tc, by rw [e], by rw [e]; exact hlc, hcm0, ?_, by rw [e]; exact HAP.out⟩
          rw [e]
          exact hTS.congrZ (fun i hi => (rotTs_N S.ts p hi).symm) (fun i hi => by rw [if_pos hi]; exact (rotTs_S S.ts p hi).symm)
        have HG : Hid (OwnGs wr w1.heap.size qm (.slice ga gn gc) S.gs) := HG1.out.keep hwi (.inl (by omega))
        have s3 : w2.heap.size < wr.heap.size := hT.lt
        obtain ⟨e0, e1, z0, z1⟩ := R2.out.within hwi (.inl (by omega))
        have e1' : (wr.setCell ⟨w.heap.size + 1, 0, none⟩ (.slice ga gn gc)).cell? ⟨w.heap.size + 1, 1, none⟩ = some (.slice none 0 0) := by simp [go_sem, e1]
        have z1' : (wr.setCell ⟨w.heap.size + 1, 0, none⟩ (.slice ga gn gc)).frozen? ⟨w.heap.size + 1, 1, none⟩ = false := (World.frozen?_setCell ..).trans z1
        clear hT hTS hwi
        go_wp2_with fail
        refine bodyPost_ret (v := .tuple #[.agg #[.slice ga gn gc, .slice (some ⟨g, 0, none⟩) S.ts.length tc], .int .i64 0]) ?_ rfl ⟨⟨_, _, by rw [K.out.2], ?_⟩, ?_⟩
        · simp [results, Try.results24, go_sem, e0, e1']
        · rw [K.out.1]
          have W1 : Within (w.heap.size + 1) (w.heap.size + 2) wr ((wr.setCell ⟨w.heap.size + 1, 0, none⟩ (.slice ga gn gc)).setCell ⟨w.heap.size + 1, 1, none⟩ (.slice (some ⟨g, 0, none⟩) S.ts.length tc)) :=
            (Within.set (w.heap.size + 1) (w.heap.size + 2) wr (a := ⟨w.heap.size + 1, 0, none⟩) (Nat.le_refl _) (Nat.lt_succ_self _) (.slice ga gn gc)).trans (Within.set (w.heap.size + 1) (w.heap.size + 2) _ (a := ⟨w.heap.size + 1, 1, none⟩) (Nat.le_refl _) (Nat.lt_succ_self _) (.slice (some ⟨g, 0, none⟩) S.ts.length tc))
          exact ⟨w1.heap.size, qm, qm, w2.heap.size, by omega, by simp; omega, by omega, by simp; omega, .inl (Nat.le_refl _), HG.out.keep W1 (.inr (by omega)), HB.out.keep W1 (.inr (by omega))⟩
        · (repeat (first | exact Below.refl _ _ | refine Below.setCell ?_ (by first | (simp; done) | (simp; omega) | omega) _ | refine belowN ?_ _ | refine Below.drew ?_ | refine Below.alloc ?_ (by first | (simp; done) | (simp; omega) | omega) _ | refine Below.trans ?_ (Below.mono (by assumption) (by first | (simp; done) | (simp; omega) | omega))))
end Go.Proofs.Ytcaidemlhgepfab
