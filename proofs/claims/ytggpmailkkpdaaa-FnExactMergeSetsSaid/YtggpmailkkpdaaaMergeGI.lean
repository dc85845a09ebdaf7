/-
  The program's merge of the glues of two sets. Conditions: the theorem's own.
-/
import Derived.Test.YtggpmailkkpdaaaMergeG
namespace Go.Proofs.Ytggpmailkkpdaaa
open Go.RowKit Go.Maps Go.WideMaps

/-- A call that merges these glues, or refuses them. -/
def MgPost (W : World) (gs hs : List Gl) (e : Ending) (w' : World) : Prop :=
  (gAgree gs hs hs.length ∧ ∃ v1 v2, e = .returned (.tuple #[v1, v2, .bool true]) ∧ w'.ownsRow W.heap.size 62 2 v1 (mG gs hs hs.length).length (gCells (mG gs hs hs.length)) ∧ w'.ownsRow W.heap.size 2 1 v2 (mNums gs hs hs.length).length ((mNums gs hs hs.length).map (Value.int .i64))) ∨
  (¬ gAgree gs hs hs.length ∧ e = .returned (.tuple #[.slice none 0 0, .slice none 0 0, .bool false]))
theorem gAgree_succ {gs hs : List Gl} {k : Nat} (h : gAgree gs hs k) (h2 : ¬ gClash gs hs k) : gAgree gs hs (k + 1) := by
  intro j hj
  rcases Nat.lt_or_eq_of_le (Nat.lt_succ_iff.1 hj) with h' | h'
  · exact h j h'
  · subst h'; exact h2
theorem own_len {w : World} {base : Nat} {e : TypeId} {size : Nat} {v : Value} {n : Nat} {xs : List Value} (h : w.ownsRow base e size v n xs) : ∃ a c, v = .slice a n c := by
  rcases h.2 with ⟨rfl, rfl⟩ | ⟨g, cap, cur, rfl, _⟩
  · exact ⟨_, _, rfl⟩
  · exact ⟨_, _, rfl⟩
theorem heap_new2 (w : World) (o : Obj) (p : Obj) : ((w.alloc o).alloc p).heap[w.heap.size + 1]? = some p := by
  have := heap_alloc_new (w.alloc o) p
  simpa using this
theorem heap_new2d (w : World) (o : Obj) (p : Obj) : ((w.alloc o).drew.alloc p).heap[w.heap.size + 1]? = some p := heap_new2 w o p
theorem size2 (w : World) (o : Obj) (p : Obj) : (((w.alloc o).alloc p).drew).heap.size = w.heap.size + 2 := by
  show ((w.alloc o).alloc p).heap.size = _
  simp
theorem glue_cells_one (s : ByteArray) (x : Int) : ∀ u ∈ [Value.string s, .int .i64 x], u.oneCell' = true := by
  intro u hu
  simp at hu
  rcases hu with rfl | rfl <;> rfl

set_option maxRecDepth 100000 in
set_option maxHeartbeats 4000000 in
set_option linter.unusedSimpArgs false in
theorem mergeGlues_any (va vb : Value) (gs hs : List Gl) (w : World) (ha : Glues w va gs) (hsol : Solid va) (hb : Glues w vb hs) (oka : ∀ g ∈ gs, g.ok) (okb : ∀ g ∈ hs, g.ok) (hna : gs.length ≤ 1000) (hnb : hs.length ≤ 1000) (hd : ∀ i j, i < j → j < gs.length → gN gs i ≠ gN gs j) :
    Calls Try.prog 39 #[va, vb] w fun e w' => MgPost w gs hs e w' ∧ Below w.heap.size w w' := by
  have HA := Lib.hid ha
  have HD := Lib.hid hd
  have HOA := Lib.hid oka
  have HOB := Lib.hid okb
  obtain ⟨ao, cap, rfl, hl, hm, hc⟩ := hb
  unfold maxLen at hm
  have H0 := Lib.hid hc
  obtain ⟨ax, capx, rfl, hlx, hmx, hcx⟩ := ha
  unfold maxLen at hmx
  have HX := Lib.hid hcx
  have HS := Lib.hid hsol
  obtain ⟨i0, hi, hz0, hz1, hz2⟩ := info_parts info_glue
  obtain ⟨j0, hj, hy0, hy1, hy2⟩ := info_parts info_i64
  clear hc hcx oka okb hd hsol
  go_enter Try.func39, Try.ntmps39
  go_wp2_with fail
  refine (copyGlues_row _ gs w HA.out HS.out (by omega)).mono ?_
  rintro e w1 ⟨⟨mv, rfl, hrow⟩, hb1⟩
  have s1 := hb1.size
  have HR := Lib.hid hrow
  clear hrow
  obtain ⟨ma, mn, mc, rfl⟩ := own_shape HR.out
  go_wp2_with fail
  refine (glueNumbers_any _ gs w1 (HA.out.below hb1) HOA.out (by omega)).mono ?_
  rintro e w2 ⟨⟨rfl, hmap⟩, hb2⟩
  have s2 := hb2.size
  have HR2 := Lib.hid (ownsRow_keep HR.out hb2)
  have HM2 := Lib.hid hmap
  have hb02 : Below w.heap.size w w2 := by (repeat (first | exact Below.refl _ _ | refine Below.setCell ?_ (by first | (simp; done) | (simp; omega) | omega) _ | refine belowN ?_ _ | refine Below.drew ?_ | refine Below.alloc ?_ (by first | (simp; done) | (simp; omega) | omega) _ | refine Below.trans ?_ (Below.mono (by assumption) (by first | (simp; done) | (simp; omega) | omega))))
  clear hmap hb1 hb2 HR
  go_wp2_with fail
  have R0 := Lib.hid (HR2.out.alloc (.cells #[.int .i64 0] 2))
  have M0 := Lib.hid (World.ownsMap.alloc HM2.out (.cells #[.int .i64 0] 2))
  go_loopw [7, 9, 21] (fun m n i wr => ∃ (k : Nat) (mv nv : Value), k ≤ hs.length ∧ i = .int .i64 k ∧ mv = m ∧ nv = n ∧ Hid (gAgree gs hs k) ∧ wr.ownsRow w.heap.size 62 2 mv (mG gs hs k).length (gCells (mG gs hs k)) ∧ wr.ownsRow w.heap.size 2 1 nv (mNums gs hs k).length ((mNums gs hs k).map (Value.int .i64)) ∧ NumMap wr w1.heap.size (gN gs) 1 gs.length ∧ Below w.heap.size w wr) (fun _ _ i _ => hs.length - (intOf i).toNat)
  case atStart => exact ⟨0, _, _, by omega, rfl, rfl, rfl, Lib.hid (fun j hj => absurd hj (Nat.not_lt_zero j)), by simpa [mG, mNew] using R0.out, World.ownsRow_lit _ _ _ (by omega) (by unfold maxLen; omega) rfl, M0.out, by (repeat (first | exact Below.refl _ _ | refine Below.setCell ?_ (by first | (simp; done) | (simp; omega) | omega) _ | refine belowN ?_ _ | refine Below.drew ?_ | refine Below.alloc ?_ (by first | (simp; done) | (simp; omega) | omega) _ | refine Below.trans ?_ (Below.mono (by assumption) (by first | (simp; done) | (simp; omega) | omega))))⟩
  case round =>
    clear R0 M0 hb02 HR2 HM2
    obtain ⟨k, mv, nv, hk, rfl, rfl, rfl, hag, hrg, hrn, hmp, hbw⟩ := hrel
    have sw := hbw.size
    have HRG := Lib.hid hrg
    have HRN := Lib.hid hrn
    have HMP := Lib.hid hmp
    have hGl := mNew_len gs hs k
    have hGe : (mG gs hs k).length = gs.length + (mNew gs hs k).length := by simp [mG]
    have hNl := mNums_len gs hs k
    clear hrg hrn hmp
    by_cases hlt : k < hs.length
    · obtain ⟨b, off, rfl, H1⟩ := H0.out (by omega)
      have c0 := cell_below hbw (H1 k 0 hlt (by omega))
      have c1 := cell_below hbw (H1 k 1 hlt (by omega))
      simp at c0 c1
      clear H1
      have hN := (gN_ok HOB.out hlt).1
      rcases gFind_of (gs := gs) (gN hs k) with ⟨hf, hno⟩ | ⟨p, hp, hf, hnm, -⟩
      · have HF := Lib.hid hf
        have HH := Lib.hid (numMap_hasB (gN gs) 1 gs.length (gN hs k) hno)
        have HT := Lib.hid (numMap_none (gN gs) 1 gs.length (gN hs k) hno (.lit (.int .i64 0)))
        clear hf hno
        have A1 := Lib.hid (World.ownsMap.alloc HMP.out (.cells #[.string (gN hs k), .int .i64 (gS hs k)] 62))
        go_wp2_with (at_lookup; refine wpList_lookup_num _ rfl _ _ rfl w1.heap.size rfl A1.out (gN hs k) hN rfl 0 false HH.out HT.out ?_)
        have bx : (wr.alloc (.cells #[.string (gN hs k), .int .i64 (gS hs k)] 62)).cell? ⟨wr.heap.size, 1, none⟩ = some (.int .i64 (gS hs k)) := by simp [go_sem]
        refine wp_region_held_drew (S := (fun w' => w'.cell? ⟨wr.heap.size, 1, none⟩ = some (.int .i64 (gS hs k)))) (by kernel_rfl) ?_ (fun hHeld => ?_)
        · (try dsimp only)
          (((try go_split_ands); (try dsimp only); (repeat' apply And.intro)) <;> (repeat (first | with_reducible assumption | ((with_reducible refine cnew0 ?_); simp; done) | ((with_reducible refine cnew1 ?_); simp; done) | (with_reducible refine akeep ?_) | (with_reducible refine dkeep ?_) | ((with_reducible refine skeep ?_ ?_); rotate_left; (first | ((try dsimp only); omega) | (simp; done) | (simp; omega))) | (with_reducible refine bkeep hb3 ?_))))
        refine wpAnyH_take (i := 0) (oi := ⟨_, _, _, _, _, _⟩) (v := ?_) rfl (by kernel_rfl) (by kernel_rfl) (by kernel_rfl) (fun _ _ _ h => h) (Or.inl ⟨by rfl, ?_⟩) (by assumption) ?_
        rotate_left
        · (intro w hSw; (try dsimp only at hSw); go_simp; (try with_reducible rfl))
        (try simp only [Act.put, List.setIfInBounds_toArray, List.set_cons_zero, List.set_cons_succ])
        refine wpAnyH_take (i := 1) (oi := ⟨_, _, _, _, _, _⟩) (v := ?_) rfl (by kernel_rfl) (by kernel_rfl) (by kernel_rfl) (fun _ _ _ h => h) (Or.inl ⟨by rfl, ?_⟩) (by assumption) ?_
        rotate_left
        · (intro w hSw; (try dsimp only at hSw); go_simp; (try with_reducible rfl))
        (try simp only [Act.put, List.setIfInBounds_toArray, List.set_cons_zero, List.set_cons_succ])
        refine wpAnyH_take (i := 2) (oi := ⟨_, _, _, _, _, _⟩) (v := undef) rfl (by kernel_rfl) (by kernel_rfl) (by kernel_rfl) (fun _ _ _ h => h) (Or.inr ⟨by rfl, rfl⟩) (by assumption) ?_
        (try simp only [Act.put, List.setIfInBounds_toArray, List.set_cons_zero, List.set_cons_succ])
        refine wpAnyH_take (i := 3) (oi := ⟨_, _, _, _, _, _⟩) (v := undef) rfl (by kernel_rfl) (by kernel_rfl) (by kernel_rfl) (fun _ _ _ h => h) (Or.inr ⟨by rfl, rfl⟩) (by assumption) ?_
        (try simp only [Act.put, List.setIfInBounds_toArray, List.set_cons_zero, List.set_cons_succ])
        refine wpAnyH_take (i := 4) (oi := ⟨_, _, _, _, _, _⟩) (v := undef) rfl (by kernel_rfl) (by kernel_rfl) (by kernel_rfl) (fun _ _ _ h => h) (Or.inr ⟨by rfl, rfl⟩) (by assumption) ?_
        (try simp only [Act.put, List.setIfInBounds_toArray, List.set_cons_zero, List.set_cons_succ])
        refine wpAnyH_take (i := 5) (oi := ⟨_, _, _, _, _, _⟩) (v := undef) rfl (by kernel_rfl) (by kernel_rfl) (by kernel_rfl) (fun _ _ _ h => h) (Or.inr ⟨by rfl, rfl⟩) (by assumption) ?_
        (try simp only [Act.put, List.setIfInBounds_toArray, List.set_cons_zero, List.set_cons_succ])
        refine wpAnyH_take (i := 6) (oi := ⟨_, _, _, _, _, _⟩) (v := undef) rfl (by kernel_rfl) (by kernel_rfl) (by kernel_rfl) (fun _ _ _ h => h) (Or.inr ⟨by rfl, rfl⟩) (by assumption) ?_
        (try simp only [Act.put, List.setIfInBounds_toArray, List.set_cons_zero, List.set_cons_succ])
        refine wpAnyH_take (i := 7) (oi := ⟨_, _, _, _, _, _⟩) (v := undef) rfl (by kernel_rfl) (by kernel_rfl) (by kernel_rfl) (fun _ _ _ h => h) (Or.inr ⟨by rfl, rfl⟩) (by assumption) ?_
        (try simp only [Act.put, List.setIfInBounds_toArray, List.set_cons_zero, List.set_cons_succ])
        refine wpAnyH_take (i := 8) (oi := ⟨_, _, _, _, _, _⟩) (v := undef) rfl (by kernel_rfl) (by kernel_rfl) (by kernel_rfl) (fun _ _ _ h => h) (Or.inr ⟨by rfl, rfl⟩) (by assumption) ?_
        (try simp only [Act.put, List.setIfInBounds_toArray, List.set_cons_zero, List.set_cons_succ])
        refine wpAnyH_take (i := 9) (oi := ⟨_, _, _, _, _, _⟩) (v := undef) rfl (by kernel_rfl) (by kernel_rfl) (by kernel_rfl) (fun _ _ _ h => h) (Or.inr ⟨by rfl, rfl⟩) (by assumption) ?_
        (try simp only [Act.put, List.setIfInBounds_toArray, List.set_cons_zero, List.set_cons_succ])
        refine wpAnyH_take (i := 10) (oi := ⟨_, _, _, _, _, _⟩) (v := undef) rfl (by kernel_rfl) (by kernel_rfl) (by kernel_rfl) (fun _ _ _ h => h) (Or.inr ⟨by rfl, rfl⟩) (by assumption) ?_
        (try simp only [Act.put, List.setIfInBounds_toArray, List.set_cons_zero, List.set_cons_succ])
        refine wpAnyH_take (i := 11) (oi := ⟨_, _, _, _, _, _⟩) (v := ?_) rfl (by kernel_rfl) (by kernel_rfl) (by kernel_rfl) (fun _ _ _ h => h) (Or.inl ⟨by rfl, ?_⟩) (by assumption) ?_
        rotate_left
        · (intro w hSw; (try dsimp only at hSw); go_simp; (try with_reducible rfl))
        (try simp only [Act.put, List.setIfInBounds_toArray, List.set_cons_zero, List.set_cons_succ])
        refine wpAnyH_done (by kernel_rfl) ?_ _
        obtain ⟨ra, rc, rfl⟩ := own_len HRG.out
        go_wp2_with (first
          | (at_builtin; refine wpList_append_own _ rfl _ _ 27 rfl w.heap.size 62 i0 (.agg #[.string ⟨#[]⟩, .int .i64 0]) 2 24 Try.underlying27 hi hz0 hz1 hz2 rfl (by decide) _ _ _ rfl (ownsRow_keep HRG.out (by (repeat (first | exact Below.refl _ _ | refine Below.setCell ?_ (by first | (simp; done) | (simp; omega) | omega) _ | refine belowN ?_ _ | refine Below.drew ?_ | refine Below.alloc ?_ (by first | (simp; done) | (simp; omega) | omega) _ | refine Below.trans ?_ (Below.mono (by assumption) (by first | (simp; done) | (simp; omega) | omega)))))) ⟨wr.heap.size + 1, 0, none⟩ 1 1 [.string (gN hs k), .int .i64 (gS hs k)] rfl rfl (World.news_of_block (cs := #[.string (gN hs k), .int .i64 (gS hs k)]) (t := 62) (fr := (0, 0)) (by first | exact heap_new2 wr _ _ | exact heap_new2d wr _ _)) (glue_cells_one _ _) (maxLen_of (by omega)) (by omega) (by first | (simp; done) | (simp; omega) | omega) ?_; intro v2 w3 hown2 hgrow2 _; have HO2 := Lib.hid hown2; have HG2 := Lib.hid hgrow2; clear hown2 hgrow2; obtain ⟨ya, yc, rfl⟩ := own_len HO2.out; have s3 : wr.heap.size + 2 ≤ w3.heap.size := Nat.le_trans (Nat.le_of_eq (size2 wr _ _).symm) HG2.out.size; have HNK := Lib.hid (World.ownsRow.kept (ownsRow_keep HRN.out (by (repeat (first | exact Below.refl _ _ | refine Below.setCell ?_ (by first | (simp; done) | (simp; omega) | omega) _ | refine belowN ?_ _ | refine Below.drew ?_ | refine Below.alloc ?_ (by first | (simp; done) | (simp; omega) | omega) _ | refine Below.trans ?_ (Below.mono (by assumption) (by first | (simp; done) | (simp; omega) | omega)))))) HG2.out (rows_apart HRN.out HRG.out (by decide))); have HMK := Lib.hid (World.ownsMap.kept (NumMap.keep HMP.out (by (repeat (first | exact Below.refl _ _ | refine Below.setCell ?_ (by first | (simp; done) | (simp; omega) | omega) _ | refine belowN ?_ _ | refine Below.drew ?_ | refine Below.alloc ?_ (by first | (simp; done) | (simp; omega) | omega) _ | refine Below.trans ?_ (Below.mono (by assumption) (by first | (simp; done) | (simp; omega) | omega)))))) HG2.out (map_apart HMP.out HRG.out)); have B3 : Below w.heap.size w w3 := Below.grown (by (repeat (first | exact Below.refl _ _ | refine Below.setCell ?_ (by first | (simp; done) | (simp; omega) | omega) _ | refine belowN ?_ _ | refine Below.drew ?_ | refine Below.alloc ?_ (by first | (simp; done) | (simp; omega) | omega) _ | refine Below.trans ?_ (Below.mono (by assumption) (by first | (simp; done) | (simp; omega) | omega))))) HG2.out (by first | (simp; done) | (simp; omega) | omega) (fun j hj => own_block_ge HRG.out j hj))
          | (at_builtin; refine wpList_append_own _ rfl _ _ 37 rfl w.heap.size 2 j0 (.int .i64 0) 1 8 Try.underlying37 hj hy0 hy1 hy2 rfl (by decide) _ _ _ rfl (HNK.out.alloc _) ⟨w3.heap.size, 0, none⟩ 1 1 [.int .i64 ((gs.length : Int) + ((mNew gs hs k).length : Int) + 1)] rfl rfl (cell_one_new _ _ _) (ints_oneCell .i64 [(gs.length : Int) + ((mNew gs hs k).length : Int) + 1]) (maxLen_of (by omega)) (by omega) (by first | (simp; done) | (simp; omega) | omega) ?_; intro v4 w4 hown4 hgrow4 _; have HO4 := Lib.hid hown4; have HG4 := Lib.hid hgrow4; clear hown4 hgrow4))
        go_roundw
        case rel =>
          have B4 : Below w.heap.size w w4 := Below.grown (by (repeat (first | exact Below.refl _ _ | refine Below.setCell ?_ (by first | (simp; done) | (simp; omega) | omega) _ | refine belowN ?_ _ | refine Below.drew ?_ | refine Below.alloc ?_ (by first | (simp; done) | (simp; omega) | omega) _ | refine Below.trans ?_ (Below.mono (by assumption) (by first | (simp; done) | (simp; omega) | omega))))) HG4.out (by first | (simp; done) | (simp; omega) | omega) (fun j hj => own_block_ge HNK.out j hj)
          refine ⟨k + 1, _, _, by omega, by go_num, rfl, rfl, Lib.hid (gAgree_succ hag.out fun ⟨q, _, hq, _⟩ => by have := HF.out; omega), ?_, ?_, World.ownsMap.kept (World.ownsMap.alloc HMK.out _) HG4.out (map_apart HMK.out HNK.out), B4⟩
          · have G4 := World.ownsRow.kept (HO2.out.alloc _) HG4.out (rows_apart HO2.out HNK.out (by decide))
            rw [(mG_in HF.out).1, gCells_snoc, show gs.length + (mNew gs hs k).length = (mG gs hs k).length from hGe.symm]
            simpa using G4
          · have e2 := (mG_in HF.out).2
            have e3 : mNum gs hs k = (gs.length : Int) + ((mNew gs hs k).length : Int) + 1 := by rw [e2, hGe]; simp
            have e4 : mNums gs hs (k + 1) = mNums gs hs k ++ [mNum gs hs k] := rfl
            rw [e4, e3]
            simpa using HO4.out
        case measure => simp [intOf]; omega
      · have HF := Lib.hid hf
        have HH := Lib.hid ((numMap_has (gN gs) 1 gs.length (gN hs k)).2 ⟨p, hp, hnm⟩)
        have HT := numMap_at (gN gs) 1 gs.length HD.out p hp (.lit (.int .i64 0))
        rw [hnm] at HT
        have HT := Lib.hid HT
        obtain ⟨bx, offx, rfl, HX1⟩ := HX.out (by omega)
        have d1 := cell_below hbw (HX1 p 1 hp (by omega))
        simp at d1
        clear hf hnm HX1
        have A1 := Lib.hid (World.ownsMap.alloc HMP.out (.cells #[.string (gN hs k), .int .i64 (gS hs k)] 62))
        have hpi : (p : Int) < gs.length := by omega
        have hp0 : (0 : Int) ≤ p := by omega
        have hwp : IntKind.i64.wrap (p : Int) = p := by simp [IntKind.wrap, IntKind.min, IntKind.max, IntKind.signed, IntKind.bits]; omega
        by_cases he : gS gs p = gS hs k
        · rw [he] at d1
          go_wp2_with (at_lookup; refine wpList_lookup_num _ rfl _ _ rfl w1.heap.size rfl A1.out (gN hs k) hN rfl (p + 1) true HH.out HT.out ?_)
          have bx1 : (wr.alloc (.cells #[.string (gN hs k), .int .i64 (gS hs k)] 62)).cell? ⟨wr.heap.size, 1, none⟩ = some (.int .i64 (gS hs k)) := by simp [go_sem]
          refine wp_region_held_drew (S := (fun w' => w'.cell? ⟨bx, offx + p * 2 + 1, none⟩ = some (.int .i64 (gS hs k)) ∧ w'.cell? ⟨wr.heap.size, 1, none⟩ = some (.int .i64 (gS hs k)))) (by kernel_rfl) ?_ (fun hHeld => ?_)
          · (try dsimp only)
            (((try go_split_ands); (try dsimp only); (repeat' apply And.intro)) <;> (repeat (first | with_reducible assumption | ((with_reducible refine cnew0 ?_); simp; done) | ((with_reducible refine cnew1 ?_); simp; done) | (with_reducible refine akeep ?_) | (with_reducible refine dkeep ?_) | ((with_reducible refine skeep ?_ ?_); rotate_left; (first | ((try dsimp only); omega) | (simp; done) | (simp; omega))) | (with_reducible refine bkeep hb3 ?_))))
          refine wpAnyH_take (i := 0) (oi := ⟨_, _, _, _, _, _⟩) (v := ?_) rfl (by kernel_rfl) (by kernel_rfl) (by kernel_rfl) (fun _ _ _ h => h) (Or.inl ⟨by rfl, ?_⟩) (by assumption) ?_
          rotate_left
          · (intro w hSw; (try dsimp only at hSw); go_simp; (try with_reducible rfl))
          (try simp only [Act.put, List.setIfInBounds_toArray, List.set_cons_zero, List.set_cons_succ])
          refine wpAnyH_take (i := 1) (oi := ⟨_, _, _, _, _, _⟩) (v := ?_) rfl (by kernel_rfl) (by kernel_rfl) (by kernel_rfl) (fun _ _ _ h => h) (Or.inl ⟨by rfl, ?_⟩) (by assumption) ?_
          rotate_left
          · (intro w hSw; (try dsimp only at hSw); go_simp; (try with_reducible rfl))
          (try simp only [Act.put, List.setIfInBounds_toArray, List.set_cons_zero, List.set_cons_succ])
          refine wpAnyH_take (i := 2) (oi := ⟨_, _, _, _, _, _⟩) (v := ?_) rfl (by kernel_rfl) (by kernel_rfl) (by kernel_rfl) (fun _ _ _ h => h) (Or.inl ⟨by rfl, ?_⟩) (by assumption) ?_
          rotate_left
          · (intro w hSw; (try dsimp only at hSw); go_simp; (try with_reducible rfl))
          (try simp only [Act.put, List.setIfInBounds_toArray, List.set_cons_zero, List.set_cons_succ])
          refine wpAnyH_take (i := 3) (oi := ⟨_, _, _, _, _, _⟩) (v := ?_) rfl (by kernel_rfl) (by kernel_rfl) (by kernel_rfl) (fun _ _ _ h => h) (Or.inl ⟨by rfl, ?_⟩) (by assumption) ?_
          rotate_left
          · (intro w hSw; (try dsimp only at hSw); go_simp; (try with_reducible rfl))
          (try simp only [Act.put, List.setIfInBounds_toArray, List.set_cons_zero, List.set_cons_succ])
          refine wpAnyH_take (i := 4) (oi := ⟨_, _, _, _, _, _⟩) (v := ?_) rfl (by kernel_rfl) (by kernel_rfl) (by kernel_rfl) (fun _ _ _ h => h) (Or.inl ⟨by rfl, ?_⟩) (by assumption) ?_
          rotate_left
          · (intro w hSw; (try dsimp only at hSw); go_simp; (try with_reducible rfl))
          (try simp only [Act.put, List.setIfInBounds_toArray, List.set_cons_zero, List.set_cons_succ])
          refine wpAnyH_take (i := 5) (oi := ⟨_, _, _, _, _, _⟩) (v := ?_) rfl (by kernel_rfl) (by kernel_rfl) (by kernel_rfl) (fun _ _ _ h => h) (Or.inl ⟨by rfl, ?_⟩) (by assumption) ?_
          rotate_left
          · (intro w hSw; (try dsimp only at hSw); go_simp; (try with_reducible rfl))
          (try simp only [Act.put, List.setIfInBounds_toArray, List.set_cons_zero, List.set_cons_succ])
          refine wpAnyH_take (i := 6) (oi := ⟨_, _, _, _, _, _⟩) (v := ?_) rfl (by kernel_rfl) (by kernel_rfl) (by kernel_rfl) (fun _ _ _ h => h) (Or.inl ⟨by rfl, ?_⟩) (by assumption) ?_
          rotate_left
          · (intro w hSw; (try dsimp only at hSw); go_simp; (try with_reducible rfl))
          (try simp only [Act.put, List.setIfInBounds_toArray, List.set_cons_zero, List.set_cons_succ])
          refine wpAnyH_take (i := 7) (oi := ⟨_, _, _, _, _, _⟩) (v := ?_) rfl (by kernel_rfl) (by kernel_rfl) (by kernel_rfl) (fun _ _ _ h => h) (Or.inl ⟨by rfl, ?_⟩) (by assumption) ?_
          rotate_left
          · (intro w hSw; (try dsimp only at hSw); go_simp; (try with_reducible rfl))
          (try simp only [Act.put, List.setIfInBounds_toArray, List.set_cons_zero, List.set_cons_succ])
          refine wpAnyH_take (i := 8) (oi := ⟨_, _, _, _, _, _⟩) (v := ?_) rfl (by kernel_rfl) (by kernel_rfl) (by kernel_rfl) (fun _ _ _ h => h) (Or.inl ⟨by rfl, ?_⟩) (by assumption) ?_
          rotate_left
          · (intro w hSw; (try dsimp only at hSw); go_simp; (try with_reducible rfl))
          (try simp only [Act.put, List.setIfInBounds_toArray, List.set_cons_zero, List.set_cons_succ])
          refine wpAnyH_take (i := 9) (oi := ⟨_, _, _, _, _, _⟩) (v := ?_) rfl (by kernel_rfl) (by kernel_rfl) (by kernel_rfl) (fun _ _ _ h => h) (Or.inl ⟨by rfl, ?_⟩) (by assumption) ?_
          rotate_left
          · (intro w hSw; (try dsimp only at hSw); go_simp; (try with_reducible rfl))
          (try simp only [Act.put, List.setIfInBounds_toArray, List.set_cons_zero, List.set_cons_succ])
          refine wpAnyH_take (i := 10) (oi := ⟨_, _, _, _, _, _⟩) (v := ?_) rfl (by kernel_rfl) (by kernel_rfl) (by kernel_rfl) (fun _ _ _ h => h) (Or.inl ⟨by rfl, ?_⟩) (by assumption) ?_
          rotate_left
          · (intro w hSw; (try dsimp only at hSw); go_simp; (try with_reducible rfl))
          (try simp only [Act.put, List.setIfInBounds_toArray, List.set_cons_zero, List.set_cons_succ])
          refine wpAnyH_take (i := 11) (oi := ⟨_, _, _, _, _, _⟩) (v := ?_) rfl (by kernel_rfl) (by kernel_rfl) (by kernel_rfl) (fun _ _ _ h => h) (Or.inl ⟨by rfl, ?_⟩) (by assumption) ?_
          rotate_left
          · (intro w hSw; (try dsimp only at hSw); go_simp; (try with_reducible rfl))
          (try simp only [Act.put, List.setIfInBounds_toArray, List.set_cons_zero, List.set_cons_succ])
          refine wpAnyH_done (by kernel_rfl) ?_ _
          go_wp2_with (first
          | (at_builtin; refine wpList_append_own _ rfl _ _ 37 rfl w.heap.size 2 j0 (.int .i64 0) 1 8 Try.underlying37 hj hy0 hy1 hy2 rfl (by decide) _ _ _ rfl (ownsRow_keep HRN.out (by (repeat (first | exact Below.refl _ _ | refine Below.setCell ?_ (by first | (simp; done) | (simp; omega) | omega) _ | refine belowN ?_ _ | refine Below.drew ?_ | refine Below.alloc ?_ (by first | (simp; done) | (simp; omega) | omega) _ | refine Below.trans ?_ (Below.mono (by assumption) (by first | (simp; done) | (simp; omega) | omega)))))) ⟨wr.heap.size + 1, 0, none⟩ 1 1 [.int .i64 ((p : Int) + 1)] rfl rfl (World.news_of_block (cs := #[.int .i64 ((p : Int) + 1)]) (t := 2) (fr := (0, 0)) (heap_new2 wr _ _)) (ints_oneCell .i64 [(p : Int) + 1]) (maxLen_of (by omega)) (by omega) (by first | (simp; done) | (simp; omega) | omega) ?_; intro v4 w4 hown4 hgrow4 _; have HO4 := Lib.hid hown4; have HG4 := Lib.hid hgrow4; clear hown4 hgrow4))
          go_roundw
          case rel =>
            have B4 : Below w.heap.size w w4 := Below.grown (by (repeat (first | exact Below.refl _ _ | refine Below.setCell ?_ (by first | (simp; done) | (simp; omega) | omega) _ | refine belowN ?_ _ | refine Below.drew ?_ | refine Below.alloc ?_ (by first | (simp; done) | (simp; omega) | omega) _ | refine Below.trans ?_ (Below.mono (by assumption) (by first | (simp; done) | (simp; omega) | omega))))) HG4.out (by first | (simp; done) | (simp; omega) | omega) (fun j hj => own_block_ge HRN.out j hj)
            refine ⟨k + 1, _, _, by omega, by go_num, rfl, rfl, Lib.hid (gAgree_succ hag.out fun ⟨q, _, hq, hne⟩ => ?_), ?_, ?_, World.ownsMap.kept (NumMap.keep HMP.out (by (repeat (first | exact Below.refl _ _ | refine Below.setCell ?_ (by first | (simp; done) | (simp; omega) | omega) _ | refine belowN ?_ _ | refine Below.drew ?_ | refine Below.alloc ?_ (by first | (simp; done) | (simp; omega) | omega) _ | refine Below.trans ?_ (Below.mono (by assumption) (by first | (simp; done) | (simp; omega) | omega)))))) HG4.out (map_apart HMP.out HRN.out), B4⟩
            · have h1 := HF.out
              obtain rfl : q = p := by omega
              exact hne he
            · have G4 := World.ownsRow.kept (ownsRow_keep HRG.out (by (repeat (first | exact Below.refl _ _ | refine Below.setCell ?_ (by first | (simp; done) | (simp; omega) | omega) _ | refine belowN ?_ _ | refine Below.drew ?_ | refine Below.alloc ?_ (by first | (simp; done) | (simp; omega) | omega) _ | refine Below.trans ?_ (Below.mono (by assumption) (by first | (simp; done) | (simp; omega) | omega)))))) HG4.out (rows_apart HRG.out HRN.out (by decide))
              rw [(mG_out HF.out).1]
              exact G4
            · have e4 : mNums gs hs (k + 1) = mNums gs hs k ++ [mNum gs hs k] := rfl
              rw [e4, (mG_out HF.out).2]
              simpa using HO4.out
          case measure => simp [intOf]; omega
        · have K := Lib.hid (show ¬ gAgree gs hs hs.length from fun h => h k hlt ⟨p, hp, HF.out, he⟩)
          have bn : (gS gs p == gS hs k) = false := by simpa using he
          go_wp2_with (at_lookup; refine wpList_lookup_num _ rfl _ _ rfl w1.heap.size rfl A1.out (gN hs k) hN rfl (p + 1) true HH.out HT.out ?_)
          have bx1 : (wr.alloc (.cells #[.string (gN hs k), .int .i64 (gS hs k)] 62)).cell? ⟨wr.heap.size, 1, none⟩ = some (.int .i64 (gS hs k)) := by simp [go_sem]
          refine wp_region_held_drew (S := (fun w' => w'.cell? ⟨bx, offx + p * 2 + 1, none⟩ = some (.int .i64 (gS gs p)) ∧ w'.cell? ⟨wr.heap.size, 1, none⟩ = some (.int .i64 (gS hs k)))) (by kernel_rfl) ?_ (fun hHeld => ?_)
          · (try dsimp only)
            (((try go_split_ands); (try dsimp only); (repeat' apply And.intro)) <;> (repeat (first | with_reducible assumption | ((with_reducible refine cnew0 ?_); simp; done) | ((with_reducible refine cnew1 ?_); simp; done) | (with_reducible refine akeep ?_) | (with_reducible refine dkeep ?_) | ((with_reducible refine skeep ?_ ?_); rotate_left; (first | ((try dsimp only); omega) | (simp; done) | (simp; omega))) | (with_reducible refine bkeep hb3 ?_))))
          refine wpAnyH_take (i := 0) (oi := ⟨_, _, _, _, _, _⟩) (v := ?_) rfl (by kernel_rfl) (by kernel_rfl) (by kernel_rfl) (fun _ _ _ h => h) (Or.inl ⟨by rfl, ?_⟩) (by assumption) ?_
          rotate_left
          · (intro w hSw; (try dsimp only at hSw); go_simp; (try with_reducible rfl))
          (try simp only [Act.put, List.setIfInBounds_toArray, List.set_cons_zero, List.set_cons_succ])
          refine wpAnyH_take (i := 1) (oi := ⟨_, _, _, _, _, _⟩) (v := ?_) rfl (by kernel_rfl) (by kernel_rfl) (by kernel_rfl) (fun _ _ _ h => h) (Or.inl ⟨by rfl, ?_⟩) (by assumption) ?_
          rotate_left
          · (intro w hSw; (try dsimp only at hSw); go_simp; (try with_reducible rfl))
          (try simp only [Act.put, List.setIfInBounds_toArray, List.set_cons_zero, List.set_cons_succ])
          refine wpAnyH_take (i := 2) (oi := ⟨_, _, _, _, _, _⟩) (v := ?_) rfl (by kernel_rfl) (by kernel_rfl) (by kernel_rfl) (fun _ _ _ h => h) (Or.inl ⟨by rfl, ?_⟩) (by assumption) ?_
          rotate_left
          · (intro w hSw; (try dsimp only at hSw); go_simp; (try with_reducible rfl))
          (try simp only [Act.put, List.setIfInBounds_toArray, List.set_cons_zero, List.set_cons_succ])
          refine wpAnyH_take (i := 3) (oi := ⟨_, _, _, _, _, _⟩) (v := ?_) rfl (by kernel_rfl) (by kernel_rfl) (by kernel_rfl) (fun _ _ _ h => h) (Or.inl ⟨by rfl, ?_⟩) (by assumption) ?_
          rotate_left
          · (intro w hSw; (try dsimp only at hSw); go_simp; (try with_reducible rfl))
          (try simp only [Act.put, List.setIfInBounds_toArray, List.set_cons_zero, List.set_cons_succ])
          refine wpAnyH_take (i := 4) (oi := ⟨_, _, _, _, _, _⟩) (v := ?_) rfl (by kernel_rfl) (by kernel_rfl) (by kernel_rfl) (fun _ _ _ h => h) (Or.inl ⟨by rfl, ?_⟩) (by assumption) ?_
          rotate_left
          · (intro w hSw; (try dsimp only at hSw); go_simp; (try with_reducible rfl))
          (try simp only [Act.put, List.setIfInBounds_toArray, List.set_cons_zero, List.set_cons_succ])
          refine wpAnyH_take (i := 5) (oi := ⟨_, _, _, _, _, _⟩) (v := ?_) rfl (by kernel_rfl) (by kernel_rfl) (by kernel_rfl) (fun _ _ _ h => h) (Or.inl ⟨by rfl, ?_⟩) (by assumption) ?_
          rotate_left
          · (intro w hSw; (try dsimp only at hSw); go_simp; (try with_reducible rfl))
          (try simp only [Act.put, List.setIfInBounds_toArray, List.set_cons_zero, List.set_cons_succ])
          refine wpAnyH_take (i := 6) (oi := ⟨_, _, _, _, _, _⟩) (v := ?_) rfl (by kernel_rfl) (by kernel_rfl) (by kernel_rfl) (fun _ _ _ h => h) (Or.inl ⟨by rfl, ?_⟩) (by assumption) ?_
          rotate_left
          · (intro w hSw; (try dsimp only at hSw); go_simp; (try with_reducible rfl))
          (try simp only [Act.put, List.setIfInBounds_toArray, List.set_cons_zero, List.set_cons_succ])
          refine wpAnyH_take (i := 7) (oi := ⟨_, _, _, _, _, _⟩) (v := ?_) rfl (by kernel_rfl) (by kernel_rfl) (by kernel_rfl) (fun _ _ _ h => h) (Or.inl ⟨by rfl, ?_⟩) (by assumption) ?_
          rotate_left
          · (intro w hSw; (try dsimp only at hSw); go_simp; (try with_reducible rfl))
          (try simp only [Act.put, List.setIfInBounds_toArray, List.set_cons_zero, List.set_cons_succ])
          refine wpAnyH_take (i := 8) (oi := ⟨_, _, _, _, _, _⟩) (v := ?_) rfl (by kernel_rfl) (by kernel_rfl) (by kernel_rfl) (fun _ _ _ h => h) (Or.inl ⟨by rfl, ?_⟩) (by assumption) ?_
          rotate_left
          · (intro w hSw; (try dsimp only at hSw); go_simp; (try with_reducible rfl))
          (try simp only [Act.put, List.setIfInBounds_toArray, List.set_cons_zero, List.set_cons_succ])
          refine wpAnyH_take (i := 9) (oi := ⟨_, _, _, _, _, _⟩) (v := ?_) rfl (by kernel_rfl) (by kernel_rfl) (by kernel_rfl) (fun _ _ _ h => h) (Or.inl ⟨by rfl, ?_⟩) (by assumption) ?_
          rotate_left
          · (intro w hSw; (try dsimp only at hSw); go_simp; (try with_reducible rfl))
          (try simp only [Act.put, List.setIfInBounds_toArray, List.set_cons_zero, List.set_cons_succ])
          refine wpAnyH_take (i := 10) (oi := ⟨_, _, _, _, _, _⟩) (v := ?_) rfl (by kernel_rfl) (by kernel_rfl) (by kernel_rfl) (fun _ _ _ h => h) (Or.inl ⟨by rfl, ?_⟩) (by assumption) ?_
          rotate_left
          · (intro w hSw; (try dsimp only at hSw); go_simp; (try with_reducible rfl))
          (try simp only [Act.put, List.setIfInBounds_toArray, List.set_cons_zero, List.set_cons_succ])
          refine wpAnyH_take (i := 11) (oi := ⟨_, _, _, _, _, _⟩) (v := ?_) rfl (by kernel_rfl) (by kernel_rfl) (by kernel_rfl) (fun _ _ _ h => h) (Or.inl ⟨by rfl, ?_⟩) (by assumption) ?_
          rotate_left
          · (intro w hSw; (try dsimp only at hSw); go_simp; (try with_reducible rfl))
          (try simp only [Act.put, List.setIfInBounds_toArray, List.set_cons_zero, List.set_cons_succ])
          refine wpAnyH_done (by kernel_rfl) ?_ _
          go_wp2_with fail
          refine bodyPost_ret (v := .tuple #[.slice none 0 0, .slice none 0 0, .bool false]) ?_ rfl ⟨.inr ⟨K.out, rfl⟩, by (repeat (first | exact Below.refl _ _ | refine Below.setCell ?_ (by first | (simp; done) | (simp; omega) | omega) _ | refine belowN ?_ _ | refine Below.drew ?_ | refine Below.alloc ?_ (by first | (simp; done) | (simp; omega) | omega) _ | refine Below.trans ?_ (Below.mono (by assumption) (by first | (simp; done) | (simp; omega) | omega))))⟩
          simp [results, Try.results39, go_sem]
    · obtain rfl : k = hs.length := by omega
      go_wp2_with fail
      refine bodyPost_ret (v := .tuple #[mv, nv, .bool true]) ?_ rfl ⟨.inl ⟨hag.out, _, _, rfl, HRG.out, HRN.out⟩, hbw⟩
      simp [results, Try.results39, go_sem]

end Go.Proofs.Ytggpmailkkpdaaa
