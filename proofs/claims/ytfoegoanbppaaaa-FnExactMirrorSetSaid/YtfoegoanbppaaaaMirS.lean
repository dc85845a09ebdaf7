/-
  MirrorSet of the model. Conditions: each theorem's own.
-/
import Derived.Test.YtfoegoanbppaaaaOwnS
import Derived.Test.YtfoegoanbppaaaaMirI
namespace Go.Proofs.Ytfoegoanbppaaaa
open Go.RowKit

/-- A tile's sides are put in the place of the old ones, in a block of their own. -/
theorem TsAt.put {w : World} {g : Nat} {G : Nat → Nat} {sv : Nat → Value} {cap n : Nat} {N : Nat → ByteArray} {Z : Nat → List Int} (h : TsAt w g G sv cap n N Z) (hne : ∀ i, i < n → G i ≠ g) (k : Nat) {x : Value} {zs : List Int} {b : Nat}
    (hx : OwnAt w b x zs) (hb : b ≠ g) : TsAt (w.setCell ⟨g, k * 2 + 1, none⟩ x) g (fun i => if i = k then b else G i) (fun i => if i = k then x else sv i) cap n N (fun i => if i = k then zs else Z i) := by
  obtain ⟨⟨f, hr, hf⟩, hs⟩ := h
  have hw := Within.set g (g + 1) w (a := ⟨g, k * 2 + 1, none⟩) (Nat.le_refl _) (Nat.lt_succ_self _) x
  refine ⟨⟨_, hr.set (k * 2 + 1) x, fun i hi => ⟨?_, ?_⟩⟩, fun i hi => ?_⟩
  · rw [if_neg (by omega)]; exact (hf i hi).1
  · by_cases h : i = k
    · subst h; simp
    · rw [if_neg (by omega), if_neg h]; exact (hf i hi).2
  · by_cases h : i = k
    · subst h; simpa using hx.keep hw (by omega)
    · simp only [if_neg h]
      exact (hs i hi).keep hw (by have := hne i hi; omega)
theorem Apart.put {g : Nat} {G : Nat → Nat} {n lo hi hi' : Nat} (h : Apart g G n lo hi) (k b : Nat) (hb : hi ≤ b) (hb' : b < hi') : Apart g (fun i => if i = k then b else G i) n lo hi' := by
  have h0 := h.g0
  have h1 := h.g1
  refine ⟨h0, by omega, fun i hi => ?_, fun i hi => ?_, fun i hi => ?_, fun i j hij hj => ?_⟩
  · have := h.G0 i hi; split <;> omega
  · have := h.G1 i hi; split <;> omega
  · have := h.ne i hi; split <;> omega
  · have a := h.G1 i (by omega)
    have c := h.G1 j hj
    have d := h.inj i j hij hj
    split <;> split <;> omega
theorem Apart.mono {g : Nat} {G : Nat → Nat} {n lo hi hi' : Nat} (h : Apart g G n lo hi) (hh : hi ≤ hi') : Apart g G n lo hi' :=
  ⟨h.g0, Nat.lt_of_lt_of_le h.g1 hh, h.G0, fun i hi => Nat.lt_of_lt_of_le (h.G1 i hi) hh, h.ne, h.inj⟩
theorem TsAt.below {w w1 : World} {g : Nat} {G : Nat → Nat} {sv : Nat → Value} {cap n : Nat} {N : Nat → ByteArray} {Z : Nat → List Int} (h : TsAt w g G sv cap n N Z) (hb : Below w.heap.size w w1) : TsAt w1 g G sv cap n N Z := by
  obtain ⟨⟨f, hr, hf⟩, hs⟩ := h
  exact ⟨⟨f, (Within.of (lo := 0) (hi := 0) hb).rowIs hr (.inr (Nat.zero_le _)), hf⟩, fun i hi => (hs i hi).keep (Within.of (lo := 0) (hi := 0) hb) (.inr (Nat.zero_le _))⟩
theorem TsAt.congrZ {w : World} {g : Nat} {G : Nat → Nat} {sv : Nat → Value} {cap n : Nat} {N N' : Nat → ByteArray} {Z Z' : Nat → List Int} (h : TsAt w g G sv cap n N Z) (hN : ∀ i, i < n → N i = N' i) (hZ : ∀ i, i < n → Z i = Z' i) : TsAt w g G sv cap n N' Z' := by
  obtain ⟨⟨f, hr, hf⟩, hs⟩ := h
  exact ⟨⟨f, hr, fun i hi => by rw [← hN i hi]; exact hf i hi⟩, fun i hi => by rw [← hZ i hi]; exact hs i hi⟩

theorem Two.within {lo hi : Nat} {w w1 : World} {b : Nat} {x y : Value} (h : Two w b x y) (hw : Within lo hi w w1) (ho : b < lo ∨ hi ≤ b) : Two w1 b x y :=
  ⟨(World.cell?_of_block (hw.block b h.lt ho)).trans h.c0, (World.cell?_of_block (hw.block b h.lt ho)).trans h.c1, (World.frozen?_of_block (hw.block b h.lt ho)).trans h.z0, (World.frozen?_of_block (hw.block b h.lt ho)).trans h.z1⟩
theorem own4 (w : World) (a b c d : Int) : OwnAt (w.alloc (.cells #[.int .i64 a, .int .i64 b, .int .i64 c, .int .i64 d] 2)) w.heap.size (.slice (some ⟨w.heap.size, 0, none⟩) 4 4) [a, b, c, d] := by
  refine OwnAt.made (zs := [a, b, c, d]) (by simp) (by unfold maxLen; omega) (World.rowIs_alloc w #[.int .i64 a, .int .i64 b, .int .i64 c, .int .i64 d] 2 (fun i => .int .i64 (iAt [a, b, c, d] i)) (fun i hi => ?_)) (fun i _ => rfl)
  have hi4 : i < 4 := hi
  obtain rfl | rfl | rfl | rfl : i = 0 ∨ i = 1 ∨ i = 2 ∨ i = 3 := by omega
  all_goals rfl
/-- The sides while k tiles have been mirrored. -/
def midS (ts : List Tl) (k i : Nat) : List Int := if i < k then mir (tS ts i) else tS ts i
/-- One tile more has been mirrored: its new sides stand in a new block. -/
theorem mid_step {w2 w : World} {g cap n lo k : Nat} {G : Nat → Nat} {sv : Nat → Value} {N : Nat → ByteArray} {ts : List Tl} (h : TsAt w g G sv cap n N (midS ts k)) (ha : Apart g G n lo w.heap.size) (hw : Within g (g + 1) w2 w) (a b c d : Int) (hz : mir (tS ts k) = [a, b, c, d]) :
    ∃ G' sv', TsAt ((w.alloc (.cells #[.int .i64 a, .int .i64 b, .int .i64 c, .int .i64 d] 2)).setCell ⟨g, k * 2 + 1, none⟩ (.slice (some ⟨w.heap.size, 0, none⟩) 4 4)) g G' sv' cap n N (midS ts (k + 1)) ∧
      Apart g G' n lo ((w.alloc (.cells #[.int .i64 a, .int .i64 b, .int .i64 c, .int .i64 d] 2)).setCell ⟨g, k * 2 + 1, none⟩ (.slice (some ⟨w.heap.size, 0, none⟩) 4 4)).heap.size ∧
      Within g (g + 1) w2 ((w.alloc (.cells #[.int .i64 a, .int .i64 b, .int .i64 c, .int .i64 d] 2)).setCell ⟨g, k * 2 + 1, none⟩ (.slice (some ⟨w.heap.size, 0, none⟩) 4 4)) := by
  have hB : Below w.heap.size w (w.alloc (.cells #[.int .i64 a, .int .i64 b, .int .i64 c, .int .i64 d] 2)) := by (repeat (first | exact Below.refl _ _ | refine Below.setCell ?_ (by first | (simp; done) | (simp; omega) | omega) _ | refine belowN ?_ _ | refine Below.drew ?_ | refine Below.alloc ?_ (by first | (simp; done) | (simp; omega) | omega) _ | refine Below.trans ?_ (Below.mono (by assumption) (by first | (simp; done) | (simp; omega) | omega))))
  have hg := ha.g1
  refine ⟨_, _, ((h.below hB).put ha.ne k (own4 w a b c d) (by omega)).congrZ (fun _ _ => rfl) (fun i hi => ?_), ha.put k w.heap.size (Nat.le_refl _) (by simp), hw.trans ((Within.of (lo := g) (hi := g + 1) hB).trans (Within.set1 g _ _ _))⟩
  unfold midS
  by_cases h : i = k
  · subst h; simp [hz]
  · by_cases h2 : i < k
    · rw [if_neg h, if_pos h2, if_pos (by omega)]
    · rw [if_neg h, if_neg h2, if_neg (by omega)]

set_option maxRecDepth 100000 in
set_option maxHeartbeats 4000000 in
theorem specMirrorSet_any (vg vt : Value) (S : Set_) (w : World) (hS : SetIn w vg vt S) (hsol : ∃ ad n cap, vg = .slice (some ad) n cap) (ok : S.ok) (hs : S.small) :
    Calls Try.prog 39 #[.agg #[vg, vt]] w fun e w' => SetPost w (mi1 S) (mi2 S) e w' ∧ Below w.heap.size w w' := by
  have HS := Lib.hid hS
  have hgl := hs.gl
  have htl := hs.tl
  clear hS
  cases hv : validB S
  · have K : Hid (mi1 S = ⟨[], []⟩ ∧ mi2 S = 1) := by unfold mi1 mi2; rw [hv]; exact ⟨rfl, rfl⟩
    go_enter Try.func39, Try.ntmps39
    go_wp2_with fail
    refine (l02Ok_any w.heap.size vg vt S _ ⟨by simp [go_sem], by simp [go_sem]⟩ (HS.out.below (by (repeat (first | exact Below.refl _ _ | refine Below.setCell ?_ (by first | (simp; done) | (simp; omega) | omega) _ | refine belowN ?_ _ | refine Below.drew ?_ | refine Below.alloc ?_ (by first | (simp; done) | (simp; omega) | omega) _ | refine Below.trans ?_ (Below.mono (by assumption) (by first | (simp; done) | (simp; omega) | omega)))))) ok hs).mono ?_
    rintro e w1 ⟨rfl, hb1⟩
    obtain ⟨hc1, hf1, hl1, -⟩ := bfull hb1
    go_wp2_with fail
    refine bodyPost_ret (v := .tuple #[.agg #[.slice none 0 0, .slice none 0 0], .int .i64 1]) ?_ rfl ⟨⟨_, _, by rw [K.out.2], ?_⟩, by (repeat (first | exact Below.refl _ _ | refine Below.setCell ?_ (by first | (simp; done) | (simp; omega) | omega) _ | refine belowN ?_ _ | refine Below.drew ?_ | refine Below.alloc ?_ (by first | (simp; done) | (simp; omega) | omega) _ | refine Below.trans ?_ (Below.mono (by assumption) (by first | (simp; done) | (simp; omega) | omega))))⟩
    · simp [results, Try.results39, go_sem, hc1]
    · rw [K.out.1]
      exact ⟨w.heap.size, w.heap.size, w.heap.size, w.heap.size, Nat.le_refl _, by have := hb1.size; simp at this; simp; omega, Nat.le_refl _, by have := hb1.size; simp at this; simp; omega, .inl (Nat.le_refl _), .inl ⟨rfl, rfl⟩, .inl ⟨rfl, rfl⟩⟩
  · have K : Hid (mi1 S = mirS S ∧ mi2 S = 0) := by unfold mi1 mi2; rw [hv]; exact ⟨rfl, rfl⟩
    have V := Lib.hid (validB_iff.1 hv)
    go_enter Try.func39, Try.ntmps39
    go_wp2_with fail
    refine (l02Ok_any w.heap.size vg vt S _ ⟨by simp [go_sem], by simp [go_sem]⟩ (HS.out.below (by (repeat (first | exact Below.refl _ _ | refine Below.setCell ?_ (by first | (simp; done) | (simp; omega) | omega) _ | refine belowN ?_ _ | refine Below.drew ?_ | refine Below.alloc ?_ (by first | (simp; done) | (simp; omega) | omega) _ | refine Below.trans ?_ (Below.mono (by assumption) (by first | (simp; done) | (simp; omega) | omega)))))) ok hs).mono ?_
    rintro e w1 ⟨rfl, hb1⟩
    have B1 : Below w.heap.size w w1 := by (repeat (first | exact Below.refl _ _ | refine Below.setCell ?_ (by first | (simp; done) | (simp; omega) | omega) _ | refine belowN ?_ _ | refine Below.drew ?_ | refine Below.alloc ?_ (by first | (simp; done) | (simp; omega) | omega) _ | refine Below.trans ?_ (Below.mono (by assumption) (by first | (simp; done) | (simp; omega) | omega))))
    have T1 := Lib.hid (((Two.new w vg vt 31 rfl).alloc (.cells #[.slice none 0 0, .slice none 0 0] 31)).below hb1)
    have R1 := Lib.hid ((Two.new (w.alloc (.cells #[vg, vt] 31)) (.slice none 0 0) (.slice none 0 0) 31 (n := w.heap.size + 1) (by simp)).below hb1)
    have s1 : w.heap.size + 2 ≤ w1.heap.size := by have := hb1.size; simp at this; omega
    clear hb1
    go_wp2_with fail
    refine (l02Own_any w.heap.size vg vt S _ ⟨T1.out.c0, T1.out.c1⟩ (HS.out.below B1) hsol V.out hs).mono ?_
    rintro e w2 ⟨⟨og, ot, qm, rfl, hqa, hqd, hG0, hT0⟩, hb2⟩
    have B2 : Below w.heap.size w w2 := by (repeat (first | exact Below.refl _ _ | refine Below.setCell ?_ (by first | (simp; done) | (simp; omega) | omega) _ | refine belowN ?_ _ | refine Below.drew ?_ | refine Below.alloc ?_ (by first | (simp; done) | (simp; omega) | omega) _ | refine Below.trans ?_ (Below.mono (by assumption) (by first | (simp; done) | (simp; omega) | omega))))
    have T2 := Lib.hid (T1.out.below hb2)
    have R2 := Lib.hid (R1.out.below hb2)
    have s2 : w1.heap.size ≤ w2.heap.size := hb2.size
    obtain ⟨ga, gn, gc, rfl⟩ := hG0.shape
    obtain ⟨ta, tn, tc, rfl⟩ : ∃ ta tn tc, ot = .slice ta tn tc := by
      obtain ⟨_, ⟨ta, tc, h, -⟩, -⟩ := hT0.tiles
      exact ⟨ta, _, tc, h⟩
    clear hb2
    have HG1 := Lib.hid hG0
    have HT1 := Lib.hid hT0
    clear hG0 hT0
    go_wp2_with fail
    have hT0 := HT1.out
    obtain ⟨g, G0, sv0, cap, hvv, hlc, hcm0, hts, hapt⟩ : ∃ g G sv cap, Value.slice ta tn tc = .slice (some ⟨g, 0, none⟩) S.ts.length cap ∧ S.ts.length ≤ cap ∧ cap ≤ maxLen ∧ TsAt w2 g G sv cap S.ts.length (tN S.ts) (tS S.ts) ∧ Apart g G S.ts.length qm w2.heap.size := by
      rcases hT0 with ⟨-, h0⟩ | h
      · have := V.out.t.one; omega
      · exact h
    simp at hvv
    obtain ⟨rfl, rfl, rfl⟩ := hvv
    have hg0 := hapt.g0
    have hg1 := hapt.g1
    have s2' : w.heap.size < w2.heap.size := by omega
    have HTS := Lib.hid ((hts.below (w1 := w2.alloc (.cells #[.slice ga gn gc, .slice (some ⟨g, 0, none⟩) S.ts.length tc] 31)) (by (repeat (first | exact Below.refl _ _ | refine Below.setCell ?_ (by first | (simp; done) | (simp; omega) | omega) _ | refine belowN ?_ _ | refine Below.drew ?_ | refine Below.alloc ?_ (by first | (simp; done) | (simp; omega) | omega) _ | refine Below.trans ?_ (Below.mono (by assumption) (by first | (simp; done) | (simp; omega) | omega)))))).congrZ (fun _ _ => rfl) (fun i _ => (if_neg (Nat.not_lt_zero i)).symm : ∀ i, i < S.ts.length → tS S.ts i = midS S.ts 0 i))
    have HAP := Lib.hid (hapt.mono (hi' := (w2.alloc (.cells #[.slice ga gn gc, .slice (some ⟨g, 0, none⟩) S.ts.length tc] 31)).heap.size) (by simp))
    clear hT0 hts hapt
    obtain ⟨k0, k1, -, -⟩ := T2.out
    obtain ⟨svt, ⟨bo, bcap, hvt, hl2, hmx, -⟩, -⟩ := HS.out.t
    rw [hvt] at k1
    go_wp2_with fail
    go_loopw [5] (fun i wr => ∃ (k : Nat) (G : Nat → Nat) (sv : Nat → Value), k ≤ S.ts.length ∧ i = .int .i64 k ∧ Two wr w2.heap.size (.slice ga gn gc) (.slice (some ⟨g, 0, none⟩) S.ts.length tc) ∧ TsAt wr g G sv tc S.ts.length (tN S.ts) (midS S.ts k) ∧ Apart g G S.ts.length qm wr.heap.size ∧ Within g (g + 1) w2 wr) (fun i _ => S.ts.length - (intOf i).toNat)
    case atStart => exact ⟨0, _, _, by omega, rfl, Two.new _ _ _ _ rfl, HTS.out, HAP.out, Within.of (by (repeat (first | exact Below.refl _ _ | refine Below.setCell ?_ (by first | (simp; done) | (simp; omega) | omega) _ | refine belowN ?_ _ | refine Below.drew ?_ | refine Below.alloc ?_ (by first | (simp; done) | (simp; omega) | omega) _ | refine Below.trans ?_ (Below.mono (by assumption) (by first | (simp; done) | (simp; omega) | omega)))))⟩
    case round =>
      obtain ⟨k, G, sv, hk, rfl, hT, hTS, hAP, hwi⟩ := hrel
      have BW : Below w.heap.size w wr := B2.trans (hwi.belowK (by omega) (by omega))
      obtain ⟨m0, m1, -, -⟩ := id hT
      obtain ⟨p0, p1, -, -⟩ := T2.out.within hwi (.inl (by omega))
      rw [hvt] at p1
      have HTr := Lib.hid hT
      have HAr := Lib.hid hAP
      have HWr := Lib.hid hwi
      by_cases hlt : k < S.ts.length
      · obtain ⟨b, off, cap2, hvt2, hl3, hmx3, hc⟩ := tiles_open HS.out.t (by omega)
        obtain ⟨b2, o2, c, c0, c1, hc4, hcm, hcc⟩ := hc k hlt (V.out.sides hlt)
        have d1 := cell_below BW c1
        have e0 := cell_below BW (hcc 0 (by omega))
        have e1 := cell_below BW (hcc 1 (by omega))
        have e2 := cell_below BW (hcc 2 (by omega))
        have e3 := cell_below BW (hcc 3 (by omega))
        have hv2 := hvt.symm.trans hvt2
        simp at hv2
        obtain ⟨rfl, rfl⟩ := hv2
        simp at e0
        obtain ⟨f, hr, hf⟩ := id hTS.row
        have x1 := hr.cell (i := k * 2 + 1) (by omega)
        rw [(hf k hlt).2] at x1
        have x2 := hr.frozen (k * 2 + 1)
        have hb2w : b2 < w.heap.size := World.block_lt_of_cell? w ⟨b2, o2 + 0, none⟩ (hcc 0 (by omega))
        have hz : mir (tS S.ts k) = [iAt (tS S.ts k) 0, iAt (tS S.ts k) 3, iAt (tS S.ts k) 2, iAt (tS S.ts k) 1] := rfl
        have HTS2 := Lib.hid hTS
        have hgw : g < wr.heap.size := hAP.g1
        unfold maxLen at hmx3 hcm hcm0
        clear hc c0 c1 hvt hvt2 hcc hT hTS hAP hwi hr hf
        go_wp2_with fail
        have hgl2 : g < w2.heap.size := by omega
        have hbg : b2 < g := by omega
        have hgw2 : w2.heap.size < wr.heap.size := HTr.out.lt
        go_region_held3 (fun w' => w'.cell? ⟨w2.heap.size, 1, none⟩ = some (.slice (some ⟨g, 0, none⟩) S.ts.length tc) ∧ w'.cell? ⟨b2, o2, none⟩ = some (.int .i64 (iAt (tS S.ts k) 0)) ∧ w'.cell? ⟨b2, o2 + 1, none⟩ = some (.int .i64 (iAt (tS S.ts k) 1)) ∧ w'.cell? ⟨b2, o2 + 2, none⟩ = some (.int .i64 (iAt (tS S.ts k) 2)) ∧ w'.cell? ⟨b2, o2 + 3, none⟩ = some (.int .i64 (iAt (tS S.ts k) 3))) ((((try go_split_ands); (try dsimp only); (repeat' apply And.intro)) <;> (repeat (first | with_reducible assumption | ((with_reducible refine gkeep hgrow4 ?_ ?_); rotate_left; with_reducible assumption) | ((with_reducible refine gfkeep hgrow4 ?_ ?_ ?_); rotate_left; (first | ((try dsimp only); omega) | (simp; done) | (simp; omega)); with_reducible assumption) | ((with_reducible refine afkeep ?_ ?_); rotate_left; (first | ((try dsimp only); omega) | (simp; done) | (simp; omega))) | (with_reducible refine dfkeep ?_) | ((with_reducible refine bfkeep hb3 ?_ ?_); rotate_left; (first | ((try dsimp only); omega) | (simp; done) | (simp; omega))) | ((with_reducible refine cnew0 ?_); simp; done) | ((with_reducible refine cnew1 ?_); simp; done) | (with_reducible refine akeep ?_) | (with_reducible refine dkeep ?_) | ((with_reducible refine skeep ?_ ?_); rotate_left; (first | ((try dsimp only); omega) | (simp; done) | (simp; omega))) | (with_reducible refine bkeep hb3 ?_))))) (fail)
        all_goals go_wp2_with fail
        case roundEnd =>
          obtain ⟨G', sv', r1, r2, r3⟩ := mid_step HTS2.out HAr.out HWr.out _ _ _ _ hz
          rw [World.setCell_alloc_past _ _ _ _ hgw] at r1 r2 r3
          exact ⟨⟨k + 1, G', sv', by omega, by simp, (((HTr.out.far (by dsimp only; omega) _).alloc _).drew), ⟨r1.row, r1.side⟩, r2, ⟨r3.os, r3.tape, r3.output, r3.size, r3.block⟩⟩, by simp [intOf]; omega⟩
      · obtain rfl : k = S.ts.length := by omega
        have HB : Hid (OwnTs wr qm wr.heap.size (.slice (some ⟨g, 0, none⟩) S.ts.length tc) (mirS S).ts) := by
          refine .inr ⟨g, G, sv, tc, ?_, ?_, hcm0, ?_, ?_⟩
          · simp [mirS, mirTs_len]
          · simpa [mirS, mirTs_len] using hlc
          · have e : (mirS S).ts.length = S.ts.length := mirTs_len S.ts
            rw [e]
            exact hTS.congrZ (fun i hi => (mirTs_N S.ts hi).symm) (fun i hi => by rw [midS, if_pos hi]; exact (mirTs_S S.ts hi).symm)
          · have e : (mirS S).ts.length = S.ts.length := mirTs_len S.ts
            rw [e]
            exact hAP
        have HG : Hid (OwnGs wr w1.heap.size qm (.slice ga gn gc) S.gs) := HG1.out.keep hwi (.inl (by omega))
        have s3 : w2.heap.size < wr.heap.size := hT.lt
        obtain ⟨e0, e1, z0, z1⟩ := R2.out.within hwi (.inl (by omega))
        have e1' : (wr.setCell ⟨w.heap.size + 1, 0, none⟩ (.slice ga gn gc)).cell? ⟨w.heap.size + 1, 1, none⟩ = some (.slice none 0 0) := by simp [go_sem, e1]
        have z1' : (wr.setCell ⟨w.heap.size + 1, 0, none⟩ (.slice ga gn gc)).frozen? ⟨w.heap.size + 1, 1, none⟩ = false := (World.frozen?_setCell ..).trans z1
        clear hT hTS hAP
        go_wp2_with fail
        refine bodyPost_ret (v := .tuple #[.agg #[.slice ga gn gc, .slice (some ⟨g, 0, none⟩) S.ts.length tc], .int .i64 0]) ?_ rfl ⟨⟨_, _, by rw [K.out.2], ?_⟩, ?_⟩
        · simp [results, Try.results39, go_sem, e0, e1']
        · rw [K.out.1]
          have W1 : Within (w.heap.size + 1) (w.heap.size + 2) wr ((wr.setCell ⟨w.heap.size + 1, 0, none⟩ (.slice ga gn gc)).setCell ⟨w.heap.size + 1, 1, none⟩ (.slice (some ⟨g, 0, none⟩) S.ts.length tc)) :=
            (Within.set (w.heap.size + 1) (w.heap.size + 2) wr (a := ⟨w.heap.size + 1, 0, none⟩) (Nat.le_refl _) (Nat.lt_succ_self _) (.slice ga gn gc)).trans (Within.set (w.heap.size + 1) (w.heap.size + 2) _ (a := ⟨w.heap.size + 1, 1, none⟩) (Nat.le_refl _) (Nat.lt_succ_self _) (.slice (some ⟨g, 0, none⟩) S.ts.length tc))
          exact ⟨w1.heap.size, qm, qm, wr.heap.size, by omega, by simp; omega, by omega, by simp, .inl (Nat.le_refl _), HG.out.keep W1 (.inr (by omega)), HB.out.keep W1 (.inr (by omega))⟩
        · (repeat (first | exact Below.refl _ _ | refine Below.setCell ?_ (by first | (simp; done) | (simp; omega) | omega) _ | refine belowN ?_ _ | refine Below.drew ?_ | refine Below.alloc ?_ (by first | (simp; done) | (simp; omega) | omega) _ | refine Below.trans ?_ (Below.mono (by assumption) (by first | (simp; done) | (simp; omega) | omega))))

end Go.Proofs.Ytfoegoanbppaaaa
