/-
  The program's merge of the tiles of two sets. Conditions: the theorem's own.
-/
import Derived.Test.YtggpmailkkpdaaaEq4
namespace Go.Proofs.Ytggpmailkkpdaaa
open Go.RowKit Go.Maps Go.WideMaps

theorem list4 {zs : List Int} (h : zs.length = 4) : zs = [iAt zs 0, iAt zs 1, iAt zs 2, iAt zs 3] := by
  match zs, h with
  | [a, b, c, d], _ => rfl
theorem ren4 (ns zs : List Int) : [iAt (ren ns zs) 0, iAt (ren ns zs) 1, iAt (ren ns zs) 2, iAt (ren ns zs) 3] = ren ns zs := rfl

set_option maxRecDepth 100000 in
set_option maxHeartbeats 4000000 in
set_option linter.unusedSimpArgs false in
theorem mergeTiles_any (va vb vn : Value) (ts us : List Tl) (ns : List Int) (w : World) (ha : Tiles w va ts) (hb : Tiles w vb us) (hn : Ints w vn ns) (oka : ∀ t ∈ ts, t.ok) (okb : ∀ t ∈ us, t.ok) (hna : ts.length ≤ 1000) (hnb : us.length ≤ 1000)
    (h4a : ∀ k, k < ts.length → (tS ts k).length = 4) (h4b : ∀ k, k < us.length → (tS us k).length = 4) (hz : ∀ k, k < us.length → ∀ m, m < 4 → 0 ≤ iAt (tS us k) m ∧ iAt (tS us k) m < ns.length) (hd : ∀ i j, i < j → j < ts.length → tN ts i ≠ tN ts j) :
    Calls Try.prog 40 #[va, vb, vn] w fun e w' => MtPost w ts us ns e w' ∧ Below w.heap.size w w' := by
  have HA := Lib.hid ha
  have HU := Lib.hid hb
  have HN := Lib.hid hn
  have HD := Lib.hid hd
  have HOA := Lib.hid oka
  have HOB := Lib.hid okb
  have H4A := Lib.hid h4a
  have H4B := Lib.hid h4b
  have HZ := Lib.hid hz
  obtain ⟨svb, ⟨ao, cap, rfl, hl, hm, -⟩, -⟩ := hb
  unfold maxLen at hm
  obtain ⟨sva, ⟨ax, capx, rfl, hlx, hmx, -⟩, -⟩ := ha
  unfold maxLen at hmx
  obtain ⟨an, capn, rfl, hln, hmn, -⟩ := hn
  unfold maxLen at hmn
  obtain ⟨i0, hi, hz0, hz1, hz2⟩ := info_parts info_tile
  clear oka okb hd h4a h4b hz
  go_enter Try.func40, Try.ntmps40
  go_wp2_with fail
  refine (copyTiles_any _ ts w HA.out H4A.out (by omega)).mono ?_
  rintro e w1 ⟨⟨mv, rfl, hrow⟩, hb1⟩
  have s1 := hb1.size
  have HR := Lib.hid hrow
  clear hrow
  obtain ⟨ma, mc, rfl⟩ := built_len HR.out
  go_wp2_with fail
  refine (tileIndices_any _ ts w1 (HA.out.below hb1) HOA.out (by omega)).mono ?_
  rintro e w2 ⟨⟨rfl, hmap⟩, hb2⟩
  have s2 := hb2.size
  have HR2 := Lib.hid (HR.out.keep hb2)
  have HM2 := Lib.hid hmap
  have hb02 : Below w.heap.size w w2 := by (repeat (first | exact Below.refl _ _ | refine Below.setCell ?_ (by first | (simp; done) | (simp; omega) | omega) _ | refine belowN ?_ _ | refine Below.drew ?_ | refine Below.alloc ?_ (by first | (simp; done) | (simp; omega) | omega) _ | refine Below.trans ?_ (Below.mono (by assumption) (by first | (simp; done) | (simp; omega) | omega))))
  clear hmap hb1 hb2 HR
  go_wp2_with fail
  go_loopw [8, 21] (fun m i wr => ∃ (k : Nat) (tv : Value), k ≤ us.length ∧ i = .int .i64 k ∧ tv = m ∧ Hid (tAgree ts us ns k) ∧ Hid (Built wr w.heap.size tv (mT ts us ns k).length (tN (mT ts us ns k)) (tS (mT ts us ns k))) ∧ Hid (NumMap wr w1.heap.size (tN ts) 0 ts.length) ∧ Below w.heap.size w wr) (fun _ i _ => us.length - (intOf i).toNat)
  case atStart => exact ⟨0, _, by omega, rfl, rfl, Lib.hid (fun j hj => absurd hj (Nat.not_lt_zero j)), Lib.hid (by simpa [mT, tNew] using HR2.out), HM2, hb02⟩
  case round =>
    clear hb02 HR2 HM2
    obtain ⟨k, tv, hk, rfl, rfl, hag, HB, HMP, hbw⟩ := hrel
    have sw := hbw.size
    have hTl := tNew_len ts us ns k
    have hTe : (mT ts us ns k).length = ts.length + (tNew ts us ns k).length := by simp [mT]
    have hnn2 : (mT ts us ns k).length ≤ 2000 := by omega
    clear hTe hTl
    generalize hnn : (mT ts us ns k).length = nn at *
    have HNN := Lib.hid hnn
    clear hnn
    by_cases hlt : k < us.length
    · obtain ⟨b, off, cap2, hvt, hl3, hmx3, hc⟩ := tiles_open HU.out (by omega)
      obtain ⟨b2, o2, c, c0, c1, hc4, hcm, hcc⟩ := hc k hlt (H4B.out k hlt)
      have hsd := H4B.out k hlt
      simp at hvt
      obtain ⟨rfl, rfl⟩ := hvt
      have d0 := cell_below hbw c0
      have d1 := cell_below hbw c1
      have HI : Hid (Ints wr (.slice (some ⟨b2, o2, none⟩) 4 c) (tS us k)) := Lib.hid ⟨_, c, by rw [hsd], by omega, hcm, fun _ => ⟨b2, o2, rfl, fun i j hi hj => by
        obtain rfl : j = 0 := by omega
        simpa using cell_below hbw (hcc i (by omega))⟩⟩
      clear hc c0 c1 hcc
      have hN := (tN_ok HOB.out hlt).1
      go_wp2_with fail
      refine (sidesOf_any (tN us k) _ (tS us k) _ (HI.out.below (by (repeat (first | exact Below.refl _ _ | refine Below.setCell ?_ (by first | (simp; done) | (simp; omega) | omega) _ | refine belowN ?_ _ | refine Below.drew ?_ | refine Below.alloc ?_ (by first | (simp; done) | (simp; omega) | omega) _ | refine Below.trans ?_ (Below.mono (by assumption) (by first | (simp; done) | (simp; omega) | omega)))))) hsd).mono ?_
      rintro e w5 ⟨rfl, hb5⟩
      have q5 : Below wr.heap.size wr w5 := by (repeat (first | exact Below.refl _ _ | refine Below.setCell ?_ (by first | (simp; done) | (simp; omega) | omega) _ | refine belowN ?_ _ | refine Below.drew ?_ | refine Below.alloc ?_ (by first | (simp; done) | (simp; omega) | omega) _ | refine Below.trans ?_ (Below.mono (by assumption) (by first | (simp; done) | (simp; omega) | omega))))
      have f5 : w5.cell? ⟨wr.heap.size, 0, none⟩ = some (.string (tN us k)) := cell_below hb5 (by simp [go_sem])
      have s5 : wr.heap.size < w5.heap.size := World.block_lt_of_cell? w5 ⟨wr.heap.size, 0, none⟩ f5
      clear hb5
      go_wp2_with fail
      refine (renumbered_any (tS us k) ns _ _ (HN.out.below (show Below w.heap.size w w5 from hbw.trans (q5.mono (by omega)))) (HZ.out k hlt)).mono ?_
      rintro e w6 ⟨rfl, hb6⟩
      have q6 : Below wr.heap.size wr w6 := q5.trans (hb6.mono (by omega))
      have f6 := cell_below hb6 f5
      have s6 : wr.heap.size < w6.heap.size := World.block_lt_of_cell? w6 ⟨wr.heap.size, 0, none⟩ f6
      clear hb6 hsd f5 d0 d1
      have HZR := Lib.hid (ren4 ns (tS us k))
      have hzl : (ren ns (tS us k)).length = 4 := rfl
      unfold arr4
      have A1 := Lib.hid (World.ownsMap.alloc (NumMap.keep HMP.out q6) (.cells #[.int .i64 (iAt (ren ns (tS us k)) 0), .int .i64 (iAt (ren ns (tS us k)) 1), .int .i64 (iAt (ren ns (tS us k)) 2), .int .i64 (iAt (ren ns (tS us k)) 3)] 81))
      have I0' := ints4 w6 (iAt (ren ns (tS us k)) 0) (iAt (ren ns (tS us k)) 1) (iAt (ren ns (tS us k)) 2) (iAt (ren ns (tS us k)) 3) 81 rfl
      rw [ren4] at I0'
      have I0 := Lib.hid I0'
      clear I0'
      rcases tFind_of (ts := ts) (tN us k) with ⟨hf, hno⟩ | ⟨p, hp, hf, hnm, -⟩
      · have HF := Lib.hid hf
        have HH := Lib.hid (numMap_hasB (tN ts) 0 ts.length (tN us k) hno)
        have HT := Lib.hid (numMap_none (tN ts) 0 ts.length (tN us k) hno (.lit (.int .i64 0)))
        clear hf hno
        obtain ⟨ra, rc, rfl⟩ := built_len HB.out
        go_wp2_with (at_lookup; refine wpList_lookup_num _ rfl _ _ rfl w1.heap.size rfl A1.out (tN us k) hN rfl 0 false HH.out HT.out ?_)
        have f7 : (w6.alloc (.cells #[.int .i64 (iAt (ren ns (tS us k)) 0), .int .i64 (iAt (ren ns (tS us k)) 1), .int .i64 (iAt (ren ns (tS us k)) 2), .int .i64 (iAt (ren ns (tS us k)) 3)] 81)).cell? ⟨wr.heap.size, 0, none⟩ = some (.string (tN us k)) := akeep f6
        refine wp_region_held_drew (S := (fun w' => w'.cell? ⟨wr.heap.size, 0, none⟩ = some (.string (tN us k)))) (by kernel_rfl) ?_ (fun hHeld => ?_)
        · (try dsimp only)
          (((try go_split_ands); (try dsimp only); (repeat' apply And.intro)) <;> (repeat (first | with_reducible assumption | ((with_reducible refine cnew0 ?_); simp; done) | ((with_reducible refine cnew1 ?_); simp; done) | (with_reducible refine akeep ?_) | (with_reducible refine dkeep ?_) | ((with_reducible refine skeep ?_ ?_); rotate_left; (first | ((try dsimp only); omega) | (simp; done) | (simp; omega))) | (with_reducible refine bkeep hb3 ?_))))
        refine wpAnyH_take (i := 0) (oi := ⟨_, _, _, _, _, _⟩) (v := ?_) rfl (by kernel_rfl) (by kernel_rfl) (by kernel_rfl) (fun _ _ _ h => h) (Or.inl ⟨by rfl, ?_⟩) (by assumption) ?_
        rotate_left
        · (intro w hSw; (try dsimp only at hSw); go_simp; (try with_reducible rfl))
        (try simp only [Act.put, List.setIfInBounds_toArray, List.set_cons_zero, List.set_cons_succ])
        refine wpAnyH_take (i := 1) (oi := ⟨_, _, _, _, _, _⟩) (v := ?_) rfl (by kernel_rfl) (by kernel_rfl) (by kernel_rfl) (fun _ _ _ h => h) (Or.inl ⟨by rfl, ?_⟩) (by assumption) ?_
        rotate_left
        · (intro w hSw; (try dsimp only at hSw); go_simp; (try with_reducible rfl))
        (try simp only [Act.put, List.setIfInBounds_toArray, List.set_cons_zero, List.set_cons_succ])
        refine wpAnyH_take (i := 2) (oi := ⟨_, _, _, _, _, _⟩) (v := undef) rfl (by kernel_rfl) (by kernel_rfl) (by kernel_rfl) (fun _ _ _ h => h) (Or.inr ⟨by rfl, rfl⟩) (by assumption) ?_
        (try simp only [Act.put, List.setIfInBounds_toArray, List.set_cons_zero, List.set_cons_succ])
        refine wpAnyH_take (i := 3) (oi := ⟨_, _, _, _, _, _⟩) (v := undef) rfl (by kernel_rfl) (by kernel_rfl) (by kernel_rfl) (fun _ _ _ h => h) (Or.inr ⟨by rfl, rfl⟩) (by assumption) ?_
        (try simp only [Act.put, List.setIfInBounds_toArray, List.set_cons_zero, List.set_cons_succ])
        refine wpAnyH_take (i := 4) (oi := ⟨_, _, _, _, _, _⟩) (v := undef) rfl (by kernel_rfl) (by kernel_rfl) (by kernel_rfl) (fun _ _ _ h => h) (Or.inr ⟨by rfl, rfl⟩) (by assumption) ?_
        (try simp only [Act.put, List.setIfInBounds_toArray, List.set_cons_zero, List.set_cons_succ])
        refine wpAnyH_take (i := 5) (oi := ⟨_, _, _, _, _, _⟩) (v := undef) rfl (by kernel_rfl) (by kernel_rfl) (by kernel_rfl) (fun _ _ _ h => h) (Or.inr ⟨by rfl, rfl⟩) (by assumption) ?_
        (try simp only [Act.put, List.setIfInBounds_toArray, List.set_cons_zero, List.set_cons_succ])
        refine wpAnyH_take (i := 6) (oi := ⟨_, _, _, _, _, _⟩) (v := undef) rfl (by kernel_rfl) (by kernel_rfl) (by kernel_rfl) (fun _ _ _ h => h) (Or.inr ⟨by rfl, rfl⟩) (by assumption) ?_
        (try simp only [Act.put, List.setIfInBounds_toArray, List.set_cons_zero, List.set_cons_succ])
        refine wpAnyH_take (i := 7) (oi := ⟨_, _, _, _, _, _⟩) (v := undef) rfl (by kernel_rfl) (by kernel_rfl) (by kernel_rfl) (fun _ _ _ h => h) (Or.inr ⟨by rfl, rfl⟩) (by assumption) ?_
        (try simp only [Act.put, List.setIfInBounds_toArray, List.set_cons_zero, List.set_cons_succ])
        refine wpAnyH_take (i := 8) (oi := ⟨_, _, _, _, _, _⟩) (v := undef) rfl (by kernel_rfl) (by kernel_rfl) (by kernel_rfl) (fun _ _ _ h => h) (Or.inr ⟨by rfl, rfl⟩) (by assumption) ?_
        (try simp only [Act.put, List.setIfInBounds_toArray, List.set_cons_zero, List.set_cons_succ])
        refine wpAnyH_take (i := 9) (oi := ⟨_, _, _, _, _, _⟩) (v := ?_) rfl (by kernel_rfl) (by kernel_rfl) (by kernel_rfl) (fun _ _ _ h => h) (Or.inl ⟨by rfl, ?_⟩) (by assumption) ?_
        rotate_left
        · (intro w hSw; (try dsimp only at hSw); go_simp; (try with_reducible rfl))
        (try simp only [Act.put, List.setIfInBounds_toArray, List.set_cons_zero, List.set_cons_succ])
        refine wpAnyH_done (by kernel_rfl) ?_ _
        go_wp2_with fail
        have W0 : Below wr.heap.size wr (w6.alloc (.cells #[.int .i64 (iAt (ren ns (tS us k)) 0), .int .i64 (iAt (ren ns (tS us k)) 1), .int .i64 (iAt (ren ns (tS us k)) 2), .int .i64 (iAt (ren ns (tS us k)) 3)] 81)).drew := by (repeat (first | exact Below.refl _ _ | refine Below.setCell ?_ (by first | (simp; done) | (simp; omega) | omega) _ | refine belowN ?_ _ | refine Below.drew ?_ | refine Below.alloc ?_ (by first | (simp; done) | (simp; omega) | omega) _ | refine Below.trans ?_ (Below.mono (by assumption) (by first | (simp; done) | (simp; omega) | omega))))
        have f8 : (w6.alloc (.cells #[.int .i64 (iAt (ren ns (tS us k)) 0), .int .i64 (iAt (ren ns (tS us k)) 1), .int .i64 (iAt (ren ns (tS us k)) 2), .int .i64 (iAt (ren ns (tS us k)) 3)] 81)).drew.cell? ⟨wr.heap.size, 0, none⟩ = some (.string (tN us k)) := f7
        have I8 := Lib.hid (Ints.drew I0.out)
        have M8 := Lib.hid (show NumMap (w6.alloc (.cells #[.int .i64 (iAt (ren ns (tS us k)) 0), .int .i64 (iAt (ren ns (tS us k)) 1), .int .i64 (iAt (ren ns (tS us k)) 2), .int .i64 (iAt (ren ns (tS us k)) 3)] 81)).drew w1.heap.size (tN ts) 0 ts.length from A1.out)
        have hlA : wr.heap.size < (w6.alloc (.cells #[.int .i64 (iAt (ren ns (tS us k)) 0), .int .i64 (iAt (ren ns (tS us k)) 1), .int .i64 (iAt (ren ns (tS us k)) 2), .int .i64 (iAt (ren ns (tS us k)) 3)] 81)).drew.heap.size := Nat.lt_of_lt_of_le s6 (by show w6.heap.size ≤ (w6.alloc (.cells #[.int .i64 (iAt (ren ns (tS us k)) 0), .int .i64 (iAt (ren ns (tS us k)) 1), .int .i64 (iAt (ren ns (tS us k)) 2), .int .i64 (iAt (ren ns (tS us k)) 3)] 81)).heap.size; simp)
        have hl6 : w6.heap.size < (w6.alloc (.cells #[.int .i64 (iAt (ren ns (tS us k)) 0), .int .i64 (iAt (ren ns (tS us k)) 1), .int .i64 (iAt (ren ns (tS us k)) 2), .int .i64 (iAt (ren ns (tS us k)) 3)] 81)).drew.heap.size := by show w6.heap.size < (w6.alloc (.cells #[.int .i64 (iAt (ren ns (tS us k)) 0), .int .i64 (iAt (ren ns (tS us k)) 1), .int .i64 (iAt (ren ns (tS us k)) 2), .int .i64 (iAt (ren ns (tS us k)) 3)] 81)).heap.size; simp
        obtain ⟨xw, hxw⟩ := built_row HB.out
        have HOW := Lib.hid hxw
        have hin := mT_in (us := us) (ns := ns) HF.out
        have hHB : Built wr w.heap.size (.slice ra nn rc) nn (tN (mT ts us ns (k + 1))) (tS (mT ts us ns (k + 1))) := by
          refine HB.out.congr (fun i hi => ?_) (fun i hi => ?_)
          · rw [hin]; exact (tN_snoc_lt _ _ (by rw [HNN.out]; exact hi)).1.symm
          · rw [hin]; exact (tN_snoc_lt _ _ (by rw [HNN.out]; exact hi)).2.symm
        have hlast : tN (mT ts us ns (k + 1)) nn = tN us k ∧ tS (mT ts us ns (k + 1)) nn = ren ns (tS us k) := by
          rw [hin, ← HNN.out]; exact tN_snoc_last _ _
        have HLA := Lib.hid hlast
        have hlen : (mT ts us ns (k + 1)).length = nn + 1 := by rw [hin, ← HNN.out]; simp
        have HLE := Lib.hid hlen
        have HBA := Lib.hid (hHB.keep W0)
        have HbA := Lib.hid (hbw.trans (W0.mono sw))
        clear hxw hin hHB hlast hlen f6 f7 A1 I0 q5 q6 HB HMP
        generalize hWA : (w6.alloc (.cells #[.int .i64 (iAt (ren ns (tS us k)) 0), .int .i64 (iAt (ren ns (tS us k)) 1), .int .i64 (iAt (ren ns (tS us k)) 2), .int .i64 (iAt (ren ns (tS us k)) 3)] 81)).drew = wA at *
        clear hWA
        obtain ⟨G, sv, hrow, hside, hdist, hinj⟩ := HBA.out
        have HROW := Lib.hid hrow
        have HSD := Lib.hid hside
        have HDI := Lib.hid hdist
        have HIN := Lib.hid hinj
        clear hrow hside hdist hinj
        have n2 : some wr.heap.size ≠ (Value.slice ra nn rc).ownBlock := fun e => by have := own_block_lt HOW.out _ e.symm; omega
        have hszA : w.heap.size ≤ wA.heap.size := Nat.le_trans sw W0.size
        generalize hzr : ren ns (tS us k) = zr at *
        have HZ2 := Lib.hid hzr
        have HZL := Lib.hid hzl
        clear hzr hzl W0
        have HC := Lib.hid (makeTile_any (tN us k) (.slice (some ⟨w6.heap.size, 0, none⟩) 4 4) zr wA.drew (Ints.drew I8.out) (by rw [HZL.out]; omega) (by rw [HZL.out]; omega))
        go_region_held3 (fun w' => w'.cell? ⟨wr.heap.size, 0, none⟩ = some (.string (tN us k))) ((((try go_split_ands); (try dsimp only); (repeat' apply And.intro)) <;> (repeat (first | with_reducible assumption | ((with_reducible refine gkeep hgrow4 ?_ ?_); rotate_left; with_reducible assumption) | ((with_reducible refine gfkeep hgrow4 ?_ ?_ ?_); rotate_left; (first | ((try dsimp only); omega) | (simp; done) | (simp; omega)); with_reducible assumption) | ((with_reducible refine afkeep ?_ ?_); rotate_left; (first | ((try dsimp only); omega) | (simp; done) | (simp; omega))) | (with_reducible refine dfkeep ?_) | ((with_reducible refine bfkeep hb3 ?_ ?_); rotate_left; (first | ((try dsimp only); omega) | (simp; done) | (simp; omega))) | ((with_reducible refine cnew0 ?_); simp; done) | ((with_reducible refine cnew1 ?_); simp; done) | (with_reducible refine akeep ?_) | (with_reducible refine dkeep ?_) | ((with_reducible refine skeep ?_ ?_); rotate_left; (first | ((try dsimp only); omega) | (simp; done) | (simp; omega))) | (with_reducible refine bkeep hb3 ?_)))))
          (first
            | (go_at_call 51; refine HC.out.mono ?_; rintro e w3 ⟨⟨mc, mb, mf, rfl, hmb, hml, hmm, hmr, hmz⟩, hb3⟩; have C3 := Lib.hid (show Below wA.heap.size wA w3 by (repeat (first | exact Below.refl _ _ | refine Below.setCell ?_ (by first | (simp; done) | (simp; omega) | omega) _ | refine belowN ?_ _ | refine Below.drew ?_ | refine Below.alloc ?_ (by first | (simp; done) | (simp; omega) | omega) _ | refine Below.trans ?_ (Below.mono (by assumption) (by first | (simp; done) | (simp; omega) | omega))))); have R3 := Lib.hid (ownsRow_keep HROW.out C3.out); have s3 : wA.heap.size ≤ w3.heap.size := C3.out.size)
            | (refine step_append_lies _ (by rfl) _ _ _ (by rfl) w.heap.size 64 i0 _ 2 40 Try.underlying28 hi hz0 hz1 hz2 rfl (by omega) (.slice ra nn rc) nn (tRow (tN (mT ts us ns (k + 1))) sv nn) (by rfl) ((R3.out.alloc _).drew) ⟨w3.heap.size, 0, none⟩ 1 1 [.string (tN us k), .slice (some ⟨mb, 0, none⟩) zr.length mc] (by rfl) (by rfl) (World.news_of_block (cs := #[.string (tN us k), .slice (some ⟨mb, 0, none⟩) zr.length mc]) (t := 64) (fr := (0, 0)) (heap_alloc_new w3 _)) (by simp [Value.oneCell']) (by omega) (maxLen_of (by omega)) (by omega) (by simp; omega) (w3.heap.size + 1) (by simp) ?_; intro gg cap' w4 hown4 hgrow4 hat4 hlt4))
        all_goals
          go_wp2_with fail
          case roundEnd =>
            obtain ⟨r1, r2⟩ := Built.more (N := tN (mT ts us ns (k + 1))) (Z := tS (mT ts us ns (k + 1))) (s := tN us k) (zs := zr) HROW.out HSD.out HDI.out HIN.out C3.out (OwnAt.made hml hmm hmr hmz) (by simp at hmb; omega) hmr.lt hszA hown4 hgrow4 hat4 HLA.out.1 HLA.out.2
            refine ⟨⟨k + 1, _, by omega, by simp, rfl, Lib.hid (tAgree_succ hag.out fun ⟨q, _, hq, _⟩ => by have := HF.out; omega), Lib.hid ?_, Lib.hid (World.ownsMap.kept (World.ownsMap.alloc (NumMap.keep M8.out C3.out) _) hgrow4 (map_apart M8.out HROW.out)), HbA.out.trans r2⟩, by simp [intOf]; omega⟩
            rw [HLE.out]
            exact r1
      · have HF := Lib.hid hf
        have HH := Lib.hid ((numMap_has (tN ts) 0 ts.length (tN us k)).2 ⟨p, hp, hnm⟩)
        have HT := numMap_at (tN ts) 0 ts.length HD.out p hp (.lit (.int .i64 0))
        rw [hnm, Int.add_zero] at HT
        have HT := Lib.hid HT
        obtain ⟨ba, oa, capa, hva, -, -, hca⟩ := tiles_open HA.out (by omega)
        have hsda := H4A.out p hp
        obtain ⟨b3, o3, c3, a0, a1, h43, hm3, ha3⟩ := hca p hp hsda
        simp at hva
        obtain ⟨rfl, rfl⟩ := hva
        rw [hnm] at a0
        have a0 := akeep (o := .cells #[.int .i64 (iAt (ren ns (tS us k)) 0), .int .i64 (iAt (ren ns (tS us k)) 1), .int .i64 (iAt (ren ns (tS us k)) 2), .int .i64 (iAt (ren ns (tS us k)) 3)] 81) (cell_below q6 (cell_below hbw a0))
        have a1 := akeep (o := .cells #[.int .i64 (iAt (ren ns (tS us k)) 0), .int .i64 (iAt (ren ns (tS us k)) 1), .int .i64 (iAt (ren ns (tS us k)) 2), .int .i64 (iAt (ren ns (tS us k)) 3)] 81) (cell_below q6 (cell_below hbw a1))
        have HIa : Hid (Ints w6 (.slice (some ⟨b3, o3, none⟩) 4 c3) (tS ts p)) := Lib.hid ⟨_, c3, by rw [hsda], by omega, hm3, fun _ => ⟨b3, o3, rfl, fun i j hi hj => by
          obtain rfl : j = 0 := by omega
          simpa using cell_below q6 (cell_below hbw (ha3 i (by omega)))⟩⟩
        have y0 : (w6.alloc (.cells #[.int .i64 (iAt (ren ns (tS us k)) 0), .int .i64 (iAt (ren ns (tS us k)) 1), .int .i64 (iAt (ren ns (tS us k)) 2), .int .i64 (iAt (ren ns (tS us k)) 3)] 81)).cell? ⟨w6.heap.size, 0, none⟩ = some (.int .i64 (iAt (ren ns (tS us k)) 0)) := by simp [go_sem]
        have y1 : (w6.alloc (.cells #[.int .i64 (iAt (ren ns (tS us k)) 0), .int .i64 (iAt (ren ns (tS us k)) 1), .int .i64 (iAt (ren ns (tS us k)) 2), .int .i64 (iAt (ren ns (tS us k)) 3)] 81)).cell? ⟨w6.heap.size, 1, none⟩ = some (.int .i64 (iAt (ren ns (tS us k)) 1)) := by simp [go_sem]
        have y2 : (w6.alloc (.cells #[.int .i64 (iAt (ren ns (tS us k)) 0), .int .i64 (iAt (ren ns (tS us k)) 1), .int .i64 (iAt (ren ns (tS us k)) 2), .int .i64 (iAt (ren ns (tS us k)) 3)] 81)).cell? ⟨w6.heap.size, 2, none⟩ = some (.int .i64 (iAt (ren ns (tS us k)) 2)) := by simp [go_sem]
        have y3 : (w6.alloc (.cells #[.int .i64 (iAt (ren ns (tS us k)) 0), .int .i64 (iAt (ren ns (tS us k)) 1), .int .i64 (iAt (ren ns (tS us k)) 2), .int .i64 (iAt (ren ns (tS us k)) 3)] 81)).cell? ⟨w6.heap.size, 3, none⟩ = some (.int .i64 (iAt (ren ns (tS us k)) 3)) := by simp [go_sem]
        have W0 : Below wr.heap.size wr (w6.alloc (.cells #[.int .i64 (iAt (ren ns (tS us k)) 0), .int .i64 (iAt (ren ns (tS us k)) 1), .int .i64 (iAt (ren ns (tS us k)) 2), .int .i64 (iAt (ren ns (tS us k)) 3)] 81)) := by (repeat (first | exact Below.refl _ _ | refine Below.setCell ?_ (by first | (simp; done) | (simp; omega) | omega) _ | refine belowN ?_ _ | refine Below.drew ?_ | refine Below.alloc ?_ (by first | (simp; done) | (simp; omega) | omega) _ | refine Below.trans ?_ (Below.mono (by assumption) (by first | (simp; done) | (simp; omega) | omega))))
        have hpi : (p : Int) < ts.length := by omega
        clear hf hnm hca ha3 I0 q5
        by_cases he : tS ts p = ren ns (tS us k)
        · have q4 := fun W => eq4 (iAt (ren ns (tS us k)) 0) (iAt (ren ns (tS us k)) 1) (iAt (ren ns (tS us k)) 2) (iAt (ren ns (tS us k)) 3) (iAt (ren ns (tS us k)) 0) (iAt (ren ns (tS us k)) 1) (iAt (ren ns (tS us k)) 2) (iAt (ren ns (tS us k)) 3) W
          simp only [beq_self_eq_true, Bool.and_self] at q4
          go_wp2_with (at_lookup; refine wpList_lookup_num _ rfl _ _ rfl w1.heap.size rfl A1.out (tN us k) hN rfl p true HH.out HT.out ?_)
          refine wp_region_held_drew (S := (fun w' => w'.cell? ⟨ba, oa + p * 2, none⟩ = some (.string (tN us k)) ∧ w'.cell? ⟨ba, oa + p * 2 + 1, none⟩ = some (.slice (some ⟨b3, o3, none⟩) 4 c3) ∧ w'.cell? ⟨w6.heap.size, 0, none⟩ = some (.int .i64 (iAt (ren ns (tS us k)) 0)) ∧ w'.cell? ⟨w6.heap.size, 1, none⟩ = some (.int .i64 (iAt (ren ns (tS us k)) 1)) ∧ w'.cell? ⟨w6.heap.size, 2, none⟩ = some (.int .i64 (iAt (ren ns (tS us k)) 2)) ∧ w'.cell? ⟨w6.heap.size, 3, none⟩ = some (.int .i64 (iAt (ren ns (tS us k)) 3)))) (by kernel_rfl) ?_ (fun hHeld => ?_)
          · (try dsimp only)
            (((try go_split_ands); (try dsimp only); (repeat' apply And.intro)) <;> (repeat (first | with_reducible assumption | ((with_reducible refine cnew0 ?_); simp; done) | ((with_reducible refine cnew1 ?_); simp; done) | (with_reducible refine akeep ?_) | (with_reducible refine dkeep ?_) | ((with_reducible refine skeep ?_ ?_); rotate_left; (first | ((try dsimp only); omega) | (simp; done) | (simp; omega))) | (with_reducible refine bkeep hb3 ?_))))
          refine wpAnyH_take (i := 0) (oi := ⟨_, _, _, _, _, _⟩) (v := ?_) rfl (by kernel_rfl) (by kernel_rfl) (by kernel_rfl) (fun _ _ _ h => h) (Or.inl ⟨by rfl, ?_⟩) (by assumption) ?_
          rotate_left
          · (intro w hSw; (try dsimp only at hSw); go_simp; (try with_reducible rfl))
          (try simp only [Act.put, List.setIfInBounds_toArray, List.set_cons_zero, List.set_cons_succ])
          refine wpAnyH_take (i := 1) (oi := ⟨_, _, _, _, _, _⟩) (v := ?_) rfl (by kernel_rfl) (by kernel_rfl) (by kernel_rfl) (fun _ _ _ h => h) (Or.inl ⟨by rfl, ?_⟩) (by assumption) ?_
          rotate_left
          · (intro w hSw; (try dsimp only at hSw); go_simp; (try with_reducible rfl))
          (try simp only [Act.put, List.setIfInBounds_toArray, List.set_cons_zero, List.set_cons_succ])
          refine wpAnyH_take (i := 2) (oi := ⟨_, _, _, _, _, _⟩) (v := ?_) rfl (by kernel_rfl) (by kernel_rfl) (by kernel_rfl) (fun _ _ _ h => h) (Or.inl ⟨by rfl, ?_⟩) (by assumption) ?_
          rotate_left
          · (intro w hSw; (try dsimp only at hSw); go_simp; (try with_reducible rfl))
          (try simp only [Act.put, List.setIfInBounds_toArray, List.set_cons_zero, List.set_cons_succ])
          refine wpAnyH_take (i := 3) (oi := ⟨_, _, _, _, _, _⟩) (v := ?_) rfl (by kernel_rfl) (by kernel_rfl) (by kernel_rfl) (fun _ _ _ h => h) (Or.inl ⟨by rfl, ?_⟩) (by assumption) ?_
          rotate_left
          · (intro w hSw; (try dsimp only at hSw); go_simp; (try with_reducible rfl))
          (try simp only [Act.put, List.setIfInBounds_toArray, List.set_cons_zero, List.set_cons_succ])
          refine wpAnyH_take (i := 4) (oi := ⟨_, _, _, _, _, _⟩) (v := ?_) rfl (by kernel_rfl) (by kernel_rfl) (by kernel_rfl) (fun _ _ _ h => h) (Or.inl ⟨by rfl, ?_⟩) (by assumption) ?_
          rotate_left
          · (intro w hSw; (try dsimp only at hSw); go_simp; (try with_reducible rfl))
          (try simp only [Act.put, List.setIfInBounds_toArray, List.set_cons_zero, List.set_cons_succ])
          refine wpAnyH_take (i := 5) (oi := ⟨_, _, _, _, _, _⟩) (v := ?_) rfl (by kernel_rfl) (by kernel_rfl) (by kernel_rfl) (fun _ _ _ h => h) (Or.inl ⟨by rfl, ?_⟩) (by assumption) ?_
          rotate_left
          · (intro w hSw; (try dsimp only at hSw); go_simp; (try with_reducible rfl))
          (try simp only [Act.put, List.setIfInBounds_toArray, List.set_cons_zero, List.set_cons_succ])
          refine wpAnyH_take (i := 7) (oi := ⟨_, _, _, _, _, _⟩) (v := ?_) rfl (by kernel_rfl) (by kernel_rfl) (by kernel_rfl) (fun _ _ _ h => h) (Or.inl ⟨by rfl, ?_⟩) (by assumption) ?_
          rotate_left
          · (intro w hSw; (try dsimp only at hSw); go_simp; (try with_reducible rfl))
          (try simp only [Act.put, List.setIfInBounds_toArray, List.set_cons_zero, List.set_cons_succ])
          refine wpAnyH_ready (rs := [6]) (by kernel_rfl) (by simp) ?_
          refine AllReadyH.cons (o := ⟨_, _, _, _, _, _⟩) rfl (fun K hK => ?_) AllReadyH.nil
          go_simp
          (go_at_call 49; refine (sidesOf_any (tN us k) _ (tS ts p) _ (HIa.out.below (by (repeat (first | exact Below.refl _ _ | refine Below.setCell ?_ (by first | (simp; done) | (simp; omega) | omega) _ | refine belowN ?_ _ | refine Below.drew ?_ | refine Below.alloc ?_ (by first | (simp; done) | (simp; omega) | omega) _ | refine Below.trans ?_ (Below.mono (by assumption) (by first | (simp; done) | (simp; omega) | omega)))))) hsda).mono ?_; rintro e w8 ⟨rfl, hb3⟩; rw [he]; unfold arr4)
          refine hK.out _ _ ?_ (fun hHeld => ?_)
          · (try dsimp only)
            (((try go_split_ands); (try dsimp only); (repeat' apply And.intro)) <;> (repeat (first | with_reducible assumption | ((with_reducible refine cnew0 ?_); simp; done) | ((with_reducible refine cnew1 ?_); simp; done) | (with_reducible refine akeep ?_) | (with_reducible refine dkeep ?_) | ((with_reducible refine skeep ?_ ?_); rotate_left; (first | ((try dsimp only); omega) | (simp; done) | (simp; omega))) | (with_reducible refine bkeep hb3 ?_))))
          clear hK K
          (try simp only [Act.put, List.setIfInBounds_toArray, List.set_cons_zero, List.set_cons_succ])
          refine wpAnyH_take (i := 8) (oi := ⟨_, _, _, _, _, _⟩) (v := ?_) rfl (by kernel_rfl) (by kernel_rfl) (by kernel_rfl) (fun _ _ _ h => h) (Or.inl ⟨by rfl, ?_⟩) (by assumption) ?_
          rotate_left
          · (intro w hSw; (try dsimp only at hSw); go_simp; (try with_reducible rfl))
          (try simp only [Act.put, List.setIfInBounds_toArray, List.set_cons_zero, List.set_cons_succ])
          refine wpAnyH_take (i := 9) (oi := ⟨_, _, _, _, _, _⟩) (v := ?_) rfl (by kernel_rfl) (by kernel_rfl) (by kernel_rfl) (fun _ _ _ h => h) (Or.inl ⟨by rfl, ?_⟩) (by assumption) ?_
          rotate_left
          · (intro w hSw; (try dsimp only at hSw); go_simp; (try with_reducible rfl))
          (try simp only [Act.put, List.setIfInBounds_toArray, List.set_cons_zero, List.set_cons_succ])
          refine wpAnyH_done (by kernel_rfl) ?_ _
          have W8 : Below wr.heap.size wr w8 := by (repeat (first | exact Below.refl _ _ | refine Below.setCell ?_ (by first | (simp; done) | (simp; omega) | omega) _ | refine belowN ?_ _ | refine Below.drew ?_ | refine Below.alloc ?_ (by first | (simp; done) | (simp; omega) | omega) _ | refine Below.trans ?_ (Below.mono (by assumption) (by first | (simp; done) | (simp; omega) | omega))))
          go_wp2_with fail
          go_roundw
          case rel =>
            refine ⟨k + 1, tv, by omega, by go_num, rfl, Lib.hid (tAgree_succ hag.out fun ⟨q, _, hq, hne⟩ => ?_), Lib.hid ?_, Lib.hid (NumMap.keep HMP.out W8), hbw.trans (W8.mono sw)⟩
            · have h1 := HF.out
              obtain rfl : q = p := by omega
              exact hne he
            · rw [mT_out (by have := HF.out; omega), HNN.out]
              exact HB.out.keep W8
          case measure => simp [intOf]; omega
        · have K := Lib.hid (show ¬ tAgree ts us ns us.length from fun h => h k hlt ⟨p, hp, HF.out, he⟩)
          have hq : (iAt (tS ts p) 0 == iAt (ren ns (tS us k)) 0 && (iAt (tS ts p) 1 == iAt (ren ns (tS us k)) 1 && (iAt (tS ts p) 2 == iAt (ren ns (tS us k)) 2 && iAt (tS ts p) 3 == iAt (ren ns (tS us k)) 3))) = false := by
            by_cases hall : iAt (tS ts p) 0 = iAt (ren ns (tS us k)) 0 ∧ iAt (tS ts p) 1 = iAt (ren ns (tS us k)) 1 ∧ iAt (tS ts p) 2 = iAt (ren ns (tS us k)) 2 ∧ iAt (tS ts p) 3 = iAt (ren ns (tS us k)) 3
            · refine absurd ?_ he
              have e1 := list4 hsda
              have e2 := list4 (zs := ren ns (tS us k)) rfl
              rw [e1, e2, hall.1, hall.2.1, hall.2.2.1, hall.2.2.2]
            · simp only [Bool.and_eq_false_iff, beq_eq_false_iff_ne]
              by_cases g0 : iAt (tS ts p) 0 = iAt (ren ns (tS us k)) 0
              · by_cases g1 : iAt (tS ts p) 1 = iAt (ren ns (tS us k)) 1
                · by_cases g2 : iAt (tS ts p) 2 = iAt (ren ns (tS us k)) 2
                  · exact .inr (.inr (.inr fun g3 => hall ⟨g0, g1, g2, g3⟩))
                  · exact .inr (.inr (.inl g2))
                · exact .inr (.inl g1)
              · exact .inl g0
          have q4 := fun W => eq4 (iAt (tS ts p) 0) (iAt (tS ts p) 1) (iAt (tS ts p) 2) (iAt (tS ts p) 3) (iAt (ren ns (tS us k)) 0) (iAt (ren ns (tS us k)) 1) (iAt (ren ns (tS us k)) 2) (iAt (ren ns (tS us k)) 3) W
          rw [hq] at q4
          clear hq he
          go_wp2_with (at_lookup; refine wpList_lookup_num _ rfl _ _ rfl w1.heap.size rfl A1.out (tN us k) hN rfl p true HH.out HT.out ?_)
          refine wp_region_held_drew (S := (fun w' => w'.cell? ⟨ba, oa + p * 2, none⟩ = some (.string (tN us k)) ∧ w'.cell? ⟨ba, oa + p * 2 + 1, none⟩ = some (.slice (some ⟨b3, o3, none⟩) 4 c3) ∧ w'.cell? ⟨w6.heap.size, 0, none⟩ = some (.int .i64 (iAt (ren ns (tS us k)) 0)) ∧ w'.cell? ⟨w6.heap.size, 1, none⟩ = some (.int .i64 (iAt (ren ns (tS us k)) 1)) ∧ w'.cell? ⟨w6.heap.size, 2, none⟩ = some (.int .i64 (iAt (ren ns (tS us k)) 2)) ∧ w'.cell? ⟨w6.heap.size, 3, none⟩ = some (.int .i64 (iAt (ren ns (tS us k)) 3)))) (by kernel_rfl) ?_ (fun hHeld => ?_)
          · (try dsimp only)
            (((try go_split_ands); (try dsimp only); (repeat' apply And.intro)) <;> (repeat (first | with_reducible assumption | ((with_reducible refine cnew0 ?_); simp; done) | ((with_reducible refine cnew1 ?_); simp; done) | (with_reducible refine akeep ?_) | (with_reducible refine dkeep ?_) | ((with_reducible refine skeep ?_ ?_); rotate_left; (first | ((try dsimp only); omega) | (simp; done) | (simp; omega))) | (with_reducible refine bkeep hb3 ?_))))
          refine wpAnyH_take (i := 0) (oi := ⟨_, _, _, _, _, _⟩) (v := ?_) rfl (by kernel_rfl) (by kernel_rfl) (by kernel_rfl) (fun _ _ _ h => h) (Or.inl ⟨by rfl, ?_⟩) (by assumption) ?_
          rotate_left
          · (intro w hSw; (try dsimp only at hSw); go_simp; (try with_reducible rfl))
          (try simp only [Act.put, List.setIfInBounds_toArray, List.set_cons_zero, List.set_cons_succ])
          refine wpAnyH_take (i := 1) (oi := ⟨_, _, _, _, _, _⟩) (v := ?_) rfl (by kernel_rfl) (by kernel_rfl) (by kernel_rfl) (fun _ _ _ h => h) (Or.inl ⟨by rfl, ?_⟩) (by assumption) ?_
          rotate_left
          · (intro w hSw; (try dsimp only at hSw); go_simp; (try with_reducible rfl))
          (try simp only [Act.put, List.setIfInBounds_toArray, List.set_cons_zero, List.set_cons_succ])
          refine wpAnyH_take (i := 2) (oi := ⟨_, _, _, _, _, _⟩) (v := ?_) rfl (by kernel_rfl) (by kernel_rfl) (by kernel_rfl) (fun _ _ _ h => h) (Or.inl ⟨by rfl, ?_⟩) (by assumption) ?_
          rotate_left
          · (intro w hSw; (try dsimp only at hSw); go_simp; (try with_reducible rfl))
          (try simp only [Act.put, List.setIfInBounds_toArray, List.set_cons_zero, List.set_cons_succ])
          refine wpAnyH_take (i := 3) (oi := ⟨_, _, _, _, _, _⟩) (v := ?_) rfl (by kernel_rfl) (by kernel_rfl) (by kernel_rfl) (fun _ _ _ h => h) (Or.inl ⟨by rfl, ?_⟩) (by assumption) ?_
          rotate_left
          · (intro w hSw; (try dsimp only at hSw); go_simp; (try with_reducible rfl))
          (try simp only [Act.put, List.setIfInBounds_toArray, List.set_cons_zero, List.set_cons_succ])
          refine wpAnyH_take (i := 4) (oi := ⟨_, _, _, _, _, _⟩) (v := ?_) rfl (by kernel_rfl) (by kernel_rfl) (by kernel_rfl) (fun _ _ _ h => h) (Or.inl ⟨by rfl, ?_⟩) (by assumption) ?_
          rotate_left
          · (intro w hSw; (try dsimp only at hSw); go_simp; (try with_reducible rfl))
          (try simp only [Act.put, List.setIfInBounds_toArray, List.set_cons_zero, List.set_cons_succ])
          refine wpAnyH_take (i := 5) (oi := ⟨_, _, _, _, _, _⟩) (v := ?_) rfl (by kernel_rfl) (by kernel_rfl) (by kernel_rfl) (fun _ _ _ h => h) (Or.inl ⟨by rfl, ?_⟩) (by assumption) ?_
          rotate_left
          · (intro w hSw; (try dsimp only at hSw); go_simp; (try with_reducible rfl))
          (try simp only [Act.put, List.setIfInBounds_toArray, List.set_cons_zero, List.set_cons_succ])
          refine wpAnyH_take (i := 7) (oi := ⟨_, _, _, _, _, _⟩) (v := ?_) rfl (by kernel_rfl) (by kernel_rfl) (by kernel_rfl) (fun _ _ _ h => h) (Or.inl ⟨by rfl, ?_⟩) (by assumption) ?_
          rotate_left
          · (intro w hSw; (try dsimp only at hSw); go_simp; (try with_reducible rfl))
          (try simp only [Act.put, List.setIfInBounds_toArray, List.set_cons_zero, List.set_cons_succ])
          refine wpAnyH_ready (rs := [6]) (by kernel_rfl) (by simp) ?_
          refine AllReadyH.cons (o := ⟨_, _, _, _, _, _⟩) rfl (fun K hK => ?_) AllReadyH.nil
          go_simp
          (go_at_call 49; refine (sidesOf_any (tN us k) _ (tS ts p) _ (HIa.out.below (by (repeat (first | exact Below.refl _ _ | refine Below.setCell ?_ (by first | (simp; done) | (simp; omega) | omega) _ | refine belowN ?_ _ | refine Below.drew ?_ | refine Below.alloc ?_ (by first | (simp; done) | (simp; omega) | omega) _ | refine Below.trans ?_ (Below.mono (by assumption) (by first | (simp; done) | (simp; omega) | omega)))))) hsda).mono ?_; rintro e w8 ⟨rfl, hb3⟩; unfold arr4)
          refine hK.out _ _ ?_ (fun hHeld => ?_)
          · (try dsimp only)
            (((try go_split_ands); (try dsimp only); (repeat' apply And.intro)) <;> (repeat (first | with_reducible assumption | ((with_reducible refine cnew0 ?_); simp; done) | ((with_reducible refine cnew1 ?_); simp; done) | (with_reducible refine akeep ?_) | (with_reducible refine dkeep ?_) | ((with_reducible refine skeep ?_ ?_); rotate_left; (first | ((try dsimp only); omega) | (simp; done) | (simp; omega))) | (with_reducible refine bkeep hb3 ?_))))
          clear hK K
          (try simp only [Act.put, List.setIfInBounds_toArray, List.set_cons_zero, List.set_cons_succ])
          refine wpAnyH_take (i := 8) (oi := ⟨_, _, _, _, _, _⟩) (v := ?_) rfl (by kernel_rfl) (by kernel_rfl) (by kernel_rfl) (fun _ _ _ h => h) (Or.inl ⟨by rfl, ?_⟩) (by assumption) ?_
          rotate_left
          · (intro w hSw; (try dsimp only at hSw); go_simp; (try with_reducible rfl))
          (try simp only [Act.put, List.setIfInBounds_toArray, List.set_cons_zero, List.set_cons_succ])
          refine wpAnyH_take (i := 9) (oi := ⟨_, _, _, _, _, _⟩) (v := ?_) rfl (by kernel_rfl) (by kernel_rfl) (by kernel_rfl) (fun _ _ _ h => h) (Or.inl ⟨by rfl, ?_⟩) (by assumption) ?_
          rotate_left
          · (intro w hSw; (try dsimp only at hSw); go_simp; (try with_reducible rfl))
          (try simp only [Act.put, List.setIfInBounds_toArray, List.set_cons_zero, List.set_cons_succ])
          refine wpAnyH_done (by kernel_rfl) ?_ _
          have W8 : Below wr.heap.size wr w8 := by (repeat (first | exact Below.refl _ _ | refine Below.setCell ?_ (by first | (simp; done) | (simp; omega) | omega) _ | refine belowN ?_ _ | refine Below.drew ?_ | refine Below.alloc ?_ (by first | (simp; done) | (simp; omega) | omega) _ | refine Below.trans ?_ (Below.mono (by assumption) (by first | (simp; done) | (simp; omega) | omega))))
          go_wp2_with fail
          refine bodyPost_ret (v := .tuple #[.slice none 0 0, .bool false]) ?_ rfl ⟨.inr ⟨K.out, rfl⟩, hbw.trans (W8.mono sw)⟩
          simp [results, Try.results40, go_sem]
    · obtain rfl : k = us.length := by omega
      go_wp2_with fail
      refine bodyPost_ret (v := .tuple #[tv, .bool true]) ?_ rfl ⟨.inl ⟨hag.out, _, rfl, by rw [HNN.out]; exact HB.out⟩, hbw⟩
      simp [results, Try.results40, go_sem]

end Go.Proofs.Ytggpmailkkpdaaa
