/-
  The model's copy of a set, its glues as a row and its tiles as built. Conditions: the theorem's own.
-/
import Derived.Test.YtggpmailkkpdaaaStep_
namespace Go.Proofs.Ytggpmailkkpdaaa
open Go.RowKit

/-- A call that returns a set in new memory: the glues' row, and behind it the tiles. -/
def NewRows (W : World) (S : Set_) (e : Ending) (w' : World) : Prop :=
  ∃ vg vt m, e = .returned (.agg #[vg, vt]) ∧ W.heap.size ≤ m ∧ m ≤ w'.heap.size ∧ w'.ownsRow (W.heap.size + 1) 62 2 vg S.gs.length (gCells S.gs) ∧ Built w' m vt S.ts.length (tN S.ts) (tS S.ts)
set_option maxRecDepth 100000 in
set_option maxHeartbeats 4000000 in
theorem l02Own_row (p : Nat) (vg vt : Value) (S : Set_) (w : World) (hp : At w p vg vt) (hS : SetIn w vg vt S) (hsol : ∃ ad n cap, vg = .slice (some ad) n cap) (V : Valid S) (hs : S.small) :
    Calls Try.prog 32 #[.pointer (some ⟨p, 0, none⟩)] w fun e w' => NewRows w S e w' ∧ Below w.heap.size w w' := by
  have HS := Lib.hid hS
  have HP := Lib.hid hp
  have hgl := hs.gl
  have htl := hs.tl
  obtain ⟨k0, k1⟩ := id hp
  have hplt := hp.lt
  clear hS hp
  obtain ⟨i0, hi, hz0, hz1, hz2⟩ := info_parts info_glue
  have hgc : (gCells S.gs).length = S.gs.length * 2 := by simp [gCells]
  have HGC := Lib.hid hgc
  obtain ⟨ad, n, cap, rfl⟩ := hsol
  obtain ⟨ao, cap', he, hl, hm, hc⟩ := HS.out.g
  simp at he
  obtain ⟨rfl, rfl, rfl⟩ := he
  have HN : Hid (∀ j u, (gCells S.gs)[j]? = some u → w.cell? (ad.add j) = some u) := by
    by_cases h0 : 0 < S.gs.length
    · obtain ⟨b, off, h, H1⟩ := hc h0
      obtain rfl : ad = ⟨b, off, none⟩ := by simpa using h
      exact glues_news H1
    · have : S.gs = [] := List.eq_nil_of_length_eq_zero (by omega)
      rw [this]
      exact fun j u hj => by simp [gCells] at hj
  obtain ⟨sv, ⟨bo, bcap, rfl, hl2, hmx, -⟩, -⟩ := HS.out.t
  clear hc hgc
  go_enter Try.func32, Try.ntmps32
  go_wp2_with (at_builtin; refine wpList_append_own _ rfl _ _ 27 rfl (w.heap.size + 1) 62 i0 (.agg #[.string ⟨#[]⟩, .int .i64 0]) 2 24 Try.underlying27 hi hz0 hz1 hz2 rfl (by decide) (.slice (some ⟨w.heap.size + 1, 0, none⟩) 0 0) 0 [] rfl (lit1 (by simp) _ _) ad S.gs.length cap (gCells S.gs) rfl HGC.out (fun j u hj => akeep (akeep (HN.out j u hj))) (gCells_one S.gs) (maxLen_of (by omega)) (by omega) (by simp) ?_; intro v' w1 hown hgrow hat; obtain ⟨ga, gn, gc, rfl⟩ := own_shape hown; have HO := Lib.hid hown; have HGr := Lib.hid hgrow; clear hown hgrow hat)
  have B1 : Below w.heap.size w w1 := (((Below.refl _ w).alloc (Nat.le_refl _) _).alloc (by simp) _).grown HGr.out (by simp; omega) (fun k hk => by simp [Value.ownBlock] at hk; omega)
  have s1 : w.heap.size + 2 ≤ w1.heap.size := by have := HGr.out.size; simp at this; omega
  have R1 := Lib.hid (((Two.new w (.slice none 0 0) (.slice none 0 0) 30 rfl).alloc (.cells #[] 62)).grown HGr.out (by simp [Value.ownBlock]))
  have G1 := Lib.hid (show w1.ownsRow (w.heap.size + 1) 62 2 (.slice ga gn gc) S.gs.length (gCells S.gs) by simpa using HO.out)
  have T3 : Two (w1.alloc (.cells #[.slice ga gn gc, .slice none 0 0] 30)) w1.heap.size (.slice ga gn gc) (.slice none 0 0) := Two.new _ _ _ _ rfl
  clear HO HGr k0 k1
  go_loopw [4] (fun i wr => ∃ (k : Nat) (tv : Value), k ≤ S.ts.length ∧ i = .int .i64 k ∧ Two wr w1.heap.size (.slice ga gn gc) tv ∧ Built wr (w1.heap.size + 1) tv k (tN S.ts) (tS S.ts) ∧ Below w1.heap.size w1 wr) (fun i _ => S.ts.length - (intOf i).toNat)
  case atStart => exact ⟨0, _, by omega, rfl, T3, Built.nil _ _ _ _, by (repeat (first | exact Below.refl _ _ | refine Below.setCell ?_ (by first | (simp; done) | (simp; omega) | omega) _ | refine belowN ?_ _ | refine Below.drew ?_ | refine Below.alloc ?_ (by first | (simp; done) | (simp; omega) | omega) _ | refine Below.trans ?_ (Below.mono (by assumption) (by first | (simp; done) | (simp; omega) | omega))))⟩
  case round =>
    clear T3
    obtain ⟨k, tv, hk, rfl, hT, hB, hbw⟩ := hrel
    have BW : Below w.heap.size w wr := B1.trans (hbw.mono (by omega))
    obtain ⟨k0, k1⟩ := HP.out.below BW
    by_cases hlt : k < S.ts.length
    · obtain ⟨b, off, cap, hvt2, hl3, hmx3, hc⟩ := tiles_open HS.out.t (by omega)
      obtain ⟨b2, o2, c, c0, c1, hc4, hcm, hcc⟩ := hc k hlt (V.sides hlt)
      have d0 := cell_below BW c0
      have d1 := cell_below BW c1
      have hv2 := hvt2
      simp at hv2
      obtain ⟨rfl, rfl⟩ := hv2
      obtain ⟨m0, m1, -, mz⟩ := id hT
      have hsd := V.sides hlt
      have HI : Ints wr (.slice (some ⟨b2, o2, none⟩) 4 c) (tS S.ts k) := ⟨_, c, by rw [hsd], by omega, hcm, fun _ => ⟨b2, o2, rfl, fun i j hi hj => by
        obtain rfl : j = 0 := by omega
        simpa using cell_below BW (hcc i (by omega))⟩⟩
      have HSD := Lib.hid hsd
      clear hsd
      unfold maxLen at hmx3 hcm
      have hlT := World.block_lt_of_cell? wr ⟨w1.heap.size, 0, none⟩ m0
      have HT := Lib.hid hT
      have HBW := Lib.hid hbw
      obtain ⟨G, sv2, hrow, hside, hdist, hinj⟩ := hB
      have HROW := Lib.hid hrow
      obtain ⟨j0, hj, hy0, hy1, hy2⟩ := info_parts info_tile
      have ng := own_block_ge hrow
      have n1 : some w1.heap.size ≠ tv.ownBlock := fun e => by have := ng _ e.symm; omega
      have nl : ∀ q, q < w1.heap.size → some q ≠ tv.ownBlock := fun q hq e => by have := ng _ e.symm; omega
      have lp := nl p (by omega)
      have hbw2 : b < w.heap.size := World.block_lt_of_cell? w ⟨b, off + k * 2, none⟩ c0
      have lb := nl b (by omega)
      clear hc c0 c1 hvt2 hcc hrow ng nl hT hbw
      go_wp2_with fail
      refine hide1 ?_
      go_region_held3 (fun w' => w'.cell? ⟨p, 1, none⟩ = some (.slice (some ⟨b, off, none⟩) S.ts.length bcap) ∧ w'.cell? ⟨b, off + k * 2, none⟩ = some (.string (tN S.ts k)) ∧ w'.cell? ⟨b, off + k * 2 + 1, none⟩ = some (.slice (some ⟨b2, o2, none⟩) 4 c)) ((((try go_split_ands); (try dsimp only); (repeat' apply And.intro)) <;> (repeat (first | with_reducible assumption | ((with_reducible refine gkeep hgrow4 ?_ ?_); rotate_left; with_reducible assumption) | ((with_reducible refine gfkeep hgrow4 ?_ ?_ ?_); rotate_left; (first | ((try dsimp only); omega) | (simp; done) | (simp; omega)); with_reducible assumption) | ((with_reducible refine afkeep ?_ ?_); rotate_left; (first | ((try dsimp only); omega) | (simp; done) | (simp; omega))) | (with_reducible refine dfkeep ?_) | ((with_reducible refine bfkeep hb3 ?_ ?_); rotate_left; (first | ((try dsimp only); omega) | (simp; done) | (simp; omega))) | ((with_reducible refine cnew0 ?_); simp; done) | ((with_reducible refine cnew1 ?_); simp; done) | (with_reducible refine akeep ?_) | (with_reducible refine dkeep ?_) | ((with_reducible refine skeep ?_ ?_); rotate_left; (first | ((try dsimp only); omega) | (simp; done) | (simp; omega))) | (with_reducible refine bkeep hb3 ?_)))))
        (first
          | (go_at_call 69; refine (l00Own_any _ (tS S.ts k) _ (HI.below (by (repeat (first | exact Below.refl _ _ | refine Below.setCell ?_ (by first | (simp; done) | (simp; omega) | omega) _ | refine belowN ?_ _ | refine Below.drew ?_ | refine Below.alloc ?_ (by first | (simp; done) | (simp; omega) | omega) _ | refine Below.trans ?_ (Below.mono (by assumption) (by first | (simp; done) | (simp; omega) | omega)))))) (by rw [HSD.out]; omega) (by rw [HSD.out]; omega)).mono ?_; rintro e w3 ⟨⟨mc, mb, mf, rfl, hmb, hml, hmm, hmr, hmz⟩, hb3⟩; have C3 := Lib.hid (show Below wr.heap.size wr w3 by (repeat (first | exact Below.refl _ _ | refine Below.setCell ?_ (by first | (simp; done) | (simp; omega) | omega) _ | refine belowN ?_ _ | refine Below.drew ?_ | refine Below.alloc ?_ (by first | (simp; done) | (simp; omega) | omega) _ | refine Below.trans ?_ (Below.mono (by assumption) (by first | (simp; done) | (simp; omega) | omega))))); have R3 := Lib.hid (ownsRow_keep HROW.out C3.out); have s3 : wr.heap.size ≤ w3.heap.size := C3.out.size; have s3' : w1.heap.size < w3.heap.size := Nat.lt_of_lt_of_le hlT s3; have q3 := cell_below C3.out m1; have z3 : w3.frozen? ⟨w1.heap.size, 1, none⟩ = false := (C3.out.frozen (p := ⟨w1.heap.size, 1, none⟩) (by dsimp only; omega)).trans mz)
          | (refine step_append_lies _ (by rfl) _ _ _ (by rfl) (w1.heap.size + 1) 64 j0 _ 2 40 Try.underlying28 hj hy0 hy1 hy2 rfl (by omega) tv k (tRow (tN S.ts) sv2 k) (by rfl) ((R3.out.alloc _).drew) ⟨w3.heap.size, 0, none⟩ 1 1 [.string (tN S.ts k), .slice (some ⟨mb, 0, none⟩) (tS S.ts k).length mc] (by rfl) (by rfl) (World.news_of_block (cs := #[.string (tN S.ts k), .slice (some ⟨mb, 0, none⟩) (tS S.ts k).length mc]) (t := 64) (fr := (0, 0)) (heap_alloc_new w3 _)) (by simp [Value.oneCell']) (by omega) (maxLen_of (by omega)) (by omega) (by simp; omega) (w3.heap.size + 1) (by simp) ?_; intro gg cap' w4 hown4 hgrow4 hat4 hlt4; have q4 := gkeep hgrow4 (dkeep (akeep q3)) n1; have z4 : w4.frozen? ⟨w1.heap.size, 1, none⟩ = false := (World.frozen?_of_block (hgrow4.block w1.heap.size (by simp; omega) n1)).trans ((World.frozen?_alloc_past _ w1.heap.size 1 (by omega)).trans z3)))
      all_goals
        go_wp2_with fail
        case roundEnd =>
          obtain ⟨r1, r2, r3⟩ := round_end (N := tN S.ts) (Z := tS S.ts) (s := tN S.ts k) (zs := tS S.ts k) HT.out HBW.out hside hdist hinj HROW.out C3.out (OwnAt.made hml hmm hmr hmz) hmb hmr.lt hown4 hgrow4 hat4 rfl rfl
          exact ⟨⟨k + 1, _, by omega, by simp, r1, r2, r3⟩, by simp [intOf]; omega⟩
    · obtain rfl : k = S.ts.length := by omega
      obtain ⟨m0, m1, -, -⟩ := id hT
      have HG := Lib.hid (ownsRow_keep G1.out hbw)
      have HB := Lib.hid hB
      have s3 : w1.heap.size < wr.heap.size := World.block_lt_of_cell? wr ⟨w1.heap.size, 0, none⟩ m0
      obtain ⟨e0, e1, z0, z1⟩ := R1.out.below hbw
      have e1' : (wr.setCell ⟨w.heap.size, 0, none⟩ (.slice ga gn gc)).cell? ⟨w.heap.size, 1, none⟩ = some (.slice none 0 0) := by simp [go_sem, e1]
      have z1' : (wr.setCell ⟨w.heap.size, 0, none⟩ (.slice ga gn gc)).frozen? ⟨w.heap.size, 1, none⟩ = false := (World.frozen?_setCell ..).trans z1
      clear hT hB
      obtain ⟨xs9, hx9⟩ := built_row HB.out
      obtain ⟨ta, tn, tc, rfl⟩ := own_shape hx9
      clear hx9
      go_wp2_with fail
      refine bodyPost_ret (v := .agg #[.slice ga gn gc, .slice ta tn tc]) ?_ rfl ⟨⟨_, _, w1.heap.size + 1, rfl, by omega, by simp; omega, ?_⟩, ?_⟩
      · simp [results, Try.results32, go_sem, e0, e1']
      · exact ⟨ownsRow_setCell_below (ownsRow_setCell_below HG.out (by dsimp only; omega) _) (by dsimp only; omega) _, (HB.out.set (by dsimp only; omega) _).set (by dsimp only; omega) _⟩
      · (repeat (first | exact Below.refl _ _ | refine Below.setCell ?_ (by first | (simp; done) | (simp; omega) | omega) _ | refine belowN ?_ _ | refine Below.drew ?_ | refine Below.alloc ?_ (by first | (simp; done) | (simp; omega) | omega) _ | refine Below.trans ?_ (Below.mono (by assumption) (by first | (simp; done) | (simp; omega) | omega))))

end Go.Proofs.Ytggpmailkkpdaaa
