/-
  MoveAssembly, the model's. Conditions: each theorem's own.
-/
import Derived.Test.YtaeaflbmaokieaaMove
import Derived.Laws.AppendOwn
namespace Go.Proofs.Ytaeaflbmaokieaa
open Go.RowKit

/-- What the model's move returns. -/
def MlPost (W : World) (P : List Pl) (dx dy : Int) (e : Ending) (w' : World) : Prop :=
  (¬ mvOk P dx dy ∧ e = .returned (.tuple #[.agg #[.slice none 0 0], .bool false])) ∨ (mvOk P dx dy ∧ ∃ v', e = .returned (.tuple #[.agg #[v'], .bool true]) ∧ OwnA w' W.heap.size w'.heap.size v' (mvP P dx dy))
/-- The boxes of a point and of two assemblies without tiles. -/
theorem boxes_l (w : World) (x y : Value) (t2 t3 t4 : TypeId) : Two (((w.alloc (.cells #[x, y] t2)).alloc (.cells #[.slice none 0 0] t3)).alloc (.cells #[.slice none 0 0] t4)) w.heap.size x y ∧
    At1 (((w.alloc (.cells #[x, y] t2)).alloc (.cells #[.slice none 0 0] t3)).alloc (.cells #[.slice none 0 0] t4)) (w.heap.size + 1) (.slice none 0 0) ∧
    (((w.alloc (.cells #[x, y] t2)).alloc (.cells #[.slice none 0 0] t3)).alloc (.cells #[.slice none 0 0] t4)).frozen? ⟨w.heap.size + 1, 0, none⟩ = false ∧
    At1 (((w.alloc (.cells #[x, y] t2)).alloc (.cells #[.slice none 0 0] t3)).alloc (.cells #[.slice none 0 0] t4)) (w.heap.size + 1 + 1) (.slice none 0 0) ∧
    (((w.alloc (.cells #[x, y] t2)).alloc (.cells #[.slice none 0 0] t3)).alloc (.cells #[.slice none 0 0] t4)).frozen? ⟨w.heap.size + 1 + 1, 0, none⟩ = false :=
  ⟨((Two.new (n := w.heap.size) w _ _ _ rfl).alloc _).alloc _, ⟨by simp [go_sem]⟩, by simp [go_sem], ⟨by simp [go_sem]⟩, by simp [go_sem]⟩

set_option maxRecDepth 100000 in
set_option maxHeartbeats 2000000 in
set_option linter.unusedSimpArgs false in
theorem l03Move_any (p : Nat) (v : Value) (P : List Pl) (dx dy : Int) (w : World) (hp : At1 w p v) (hv : Plcs w v P) (F : Form P) (bx : -120 ≤ dx ∧ dx ≤ 120) (by_ : -120 ≤ dy ∧ dy ≤ 120) :
    Calls Try.prog 48 #[.pointer (some ⟨p, 0, none⟩), .agg #[.int .i64 dx, .int .i64 dy]] w fun e w' => MlPost w P dx dy e w' ∧ Below w.heap.size w w' := by
  obtain ⟨ao, cap, rfl, hl, hm, hc⟩ := hv.open_
  unfold maxLen at hm
  have H0 := Lib.hid hc
  have HP := Lib.hid hp
  have hplt := hp.lt
  have FF := Lib.hid F
  have h500 := F.len
  have HB := Lib.hid (boxes_l w (.int .i64 dx) (.int .i64 dy) 34 30 30)
  obtain ⟨i0, hi, hz0, hz1, hz2⟩ := info_parts info_placed
  clear hc hv hp F
  go_enter Try.func48, Try.ntmps48
  go_wp2_with fail
  go_loopw [7] (fun i wr => ∃ (k : Nat) (x : Value), k ≤ P.length ∧ i = .int .i64 k ∧ Hid (∀ j, j < k → ptB (pX P j + dx) (pY P j + dy) = true) ∧ Two wr w.heap.size (.int .i64 dx) (.int .i64 dy) ∧ At1 wr (w.heap.size + 1) (.slice none 0 0) ∧ wr.frozen? ⟨w.heap.size + 1, 0, none⟩ = false ∧ At1 wr (w.heap.size + 1 + 1) x ∧ wr.frozen? ⟨w.heap.size + 1 + 1, 0, none⟩ = false ∧ wr.ownsRow (w.heap.size + 1 + 1 + 1) 73 3 x k (cRow 3 (pC (mvP P dx dy)) k) ∧ Below w.heap.size w wr) (fun i _ => P.length - (intOf i).toNat)
  case atStart =>
    refine ⟨0, _, by omega, rfl, Lib.hid (fun j hj => by omega), HB.out.1, HB.out.2.1, HB.out.2.2.1, HB.out.2.2.2.1, HB.out.2.2.2.2, ⟨rfl, .inl ⟨rfl, rfl⟩⟩, by (repeat (first | exact Below.refl _ _ | refine Below.setCell ?_ (by first | (simp; done) | (simp; omega) | omega) _ | refine belowN ?_ _ | refine Below.drew ?_ | refine Below.alloc ?_ (by first | (simp; done) | (simp; omega) | omega) _ | refine Below.trans ?_ (Below.mono (by assumption) (by first | (simp; done) | (simp; omega) | omega))))⟩
  case round =>
    clear HB
    obtain ⟨k, x, hk, rfl, hall, hd, hr, hz, hq, hy, hown, hbw⟩ := hrel
    have sw := hbw.size
    have r1 := (HP.out.below hbw).c0
    have HD := Lib.hid hd
    have HR := Lib.hid hr
    have HQ := Lib.hid hq
    have HO := Lib.hid hown
    have ql := hq.lt
    have dl := hd.lt
    have rl := hr.lt
    by_cases hlt : k < P.length
    · obtain ⟨b, off, rfl, H1⟩ := H0.out (by omega)
      obtain ⟨c0, c1, c2⟩ := H1 k hlt
      have c0 := cell_below hbw c0
      have c1 := cell_below hbw c1
      have c2 := cell_below hbw c2
      have hpt := ptB_iff.1 (FF.out.all k hlt).pt
      have e1 : IntKind.i64.wrap (pX P k + dx) = pX P k + dx := IntWalk.i64_in _ (by omega)
      have e2 : IntKind.i64.wrap (pY P k + dy) = pY P k + dy := IntWalk.i64_in _ (by omega)
      obtain ⟨d0, d1, -, -⟩ := hd
      clear H1 hr hq hown
      go_wp2_with fail
      refine (l01Point_any _ _ _).mono ?_
      rintro e w3 ⟨rfl, hb3⟩
      have hB : Below wr.heap.size wr w3 := by (repeat (first | exact Below.refl _ _ | refine Below.setCell ?_ (by first | (simp; done) | (simp; omega) | omega) _ | refine belowN ?_ _ | refine Below.drew ?_ | refine Below.alloc ?_ (by first | (simp; done) | (simp; omega) | omega) _ | refine Below.trans ?_ (Below.mono (by assumption) (by first | (simp; done) | (simp; omega) | omega))))
      have t0 : w3.cell? ⟨wr.heap.size, 0, none⟩ = some (.int .i64 (pX P k + dx)) := bkeep hb3 (by simp [go_sem])
      have t1 : w3.cell? ⟨wr.heap.size, 1, none⟩ = some (.int .i64 (pY P k + dy)) := bkeep hb3 (by simp [go_sem])
      have t2 : w3.cell? ⟨wr.heap.size, 2, none⟩ = some (.int .i64 (pT P k)) := bkeep hb3 (by simp [go_sem])
      have s3 : wr.heap.size < w3.heap.size := World.block_lt_of_cell? w3 ⟨wr.heap.size, 0, none⟩ t0
      clear hb3
      have B3 : Below w.heap.size w w3 := hbw.trans (hB.mono sw)
      have D3 := Lib.hid (HD.out.below hB)
      have R3 := Lib.hid (HR.out.below hB)
      have x3 := R3.out.c0
      have zx3 := (hB.frozen (p := ⟨w.heap.size + 1, 0, none⟩) (by dsimp only; omega)).trans hz
      have q3 := (HQ.out.below hB).c0
      have zq3 := (hB.frozen (p := ⟨w.heap.size + 1 + 1, 0, none⟩) (by dsimp only; omega)).trans hy
      have own3 := ownsRow_keep HO.out hB
      clear c0 c1 c2 d0 d1 hz hy hB r1
      cases hpB : ptB (pX P k + dx) (pY P k + dy)
      · have K := Lib.hid (show ¬ mvOk P dx dy from fun a => by have := a k hlt; rw [hpB] at this; cases this)
        go_wp2_with fail
        refine bodyPost_ret (v := .tuple #[.agg #[.slice none 0 0], .bool false]) ?_ rfl ⟨.inl ⟨K.out, rfl⟩, by (repeat (first | exact Below.refl _ _ | refine Below.setCell ?_ (by first | (simp; done) | (simp; omega) | omega) _ | refine belowN ?_ _ | refine Below.drew ?_ | refine Below.alloc ?_ (by first | (simp; done) | (simp; omega) | omega) _ | refine Below.trans ?_ (Below.mono (by assumption) (by first | (simp; done) | (simp; omega) | omega))))⟩
        simp [results, Try.results48, go_sem, x3, zx3]
      · have HPB := Lib.hid hpB
        have hge := own_block_ge own3
        have hne1 : some (w.heap.size + 1) ≠ x.ownBlock := fun a => by have := hge _ a.symm; omega
        have hne2 : some (w.heap.size + 1 + 1) ≠ x.ownBlock := fun a => by have := hge _ a.symm; omega
        have hne0 : some w.heap.size ≠ x.ownBlock := fun a => by have := hge _ a.symm; omega
        obtain ⟨m0, m1, m2⟩ := mvP_pC (dx := dx) (dy := dy) hlt
        have HC : Hid (cCells 3 (pC (mvP P dx dy)) k = [.int .i64 (pX P k + dx), .int .i64 (pY P k + dy), .int .i64 (pT P k)]) := Lib.hid (by show [Value.int .i64 (pC (mvP P dx dy) k 0), Value.int .i64 (pC (mvP P dx dy) k 1), Value.int .i64 (pC (mvP P dx dy) k 2)] = _; simp [pC, m0, m1, m2])
        clear m0 m1 m2
        go_wp2_with (at_builtin; refine wpList_append_own _ rfl _ _ 28 rfl (w.heap.size + 1 + 1 + 1) 73 i0 (.agg #[.int .i64 0, .int .i64 0, .int .i64 0]) 3 24 Try.underlying28 hi hz0 hz1 hz2 rfl (by decide) _ _ _ rfl (own3.alloc _) ⟨w3.heap.size, 0, none⟩ 1 1 (cCells 3 (pC (mvP P dx dy)) k) rfl (by rw [HC.out]; rfl) (by rw [HC.out]; exact World.news_of_block (cs := #[.int .i64 (pX P k + dx), .int .i64 (pY P k + dy), .int .i64 (pT P k)]) (t := 73) (fr := (0, 0)) (heap_alloc_new w3 _)) (cCells_one 3 _ k) (maxLen_of (by omega)) (by omega) (by simp; omega) ?_; intro v' w2 hown2 hgrow2 _; obtain ⟨va, vn, vc, rfl⟩ := own_shape hown2; have q2 := gkeep hgrow2 (akeep q3) hne2; have zq2 := gfkeep hgrow2 (afkeep zq3 (by omega)) (by simp; omega) hne2)
        go_roundw
        case rel =>
          have hs2 : w3.heap.size ≤ w2.heap.size := by have := hgrow2.size; simp at this; omega
          refine ⟨k + 1, _, by omega, by go_num, Lib.hid fun j hj => ?_, ?_, ?_, ?_, ?_, ?_, ownsRow_setCell_below hown2 (by dsimp only; omega) _, ?_⟩
          · by_cases hjk : j < k
            · exact hall.out j hjk
            · obtain rfl : j = k := by omega
              exact HPB.out
          · have l3 := D3.out.lt
            exact (Two.mk (gkeep hgrow2 (akeep D3.out.c0) hne0) (gkeep hgrow2 (akeep D3.out.c1) hne0) (gfkeep hgrow2 (afkeep D3.out.z0 l3) (by simp; omega) hne0) (gfkeep hgrow2 (afkeep D3.out.z1 l3) (by simp; omega) hne0)).far (by dsimp only; omega) _
          · have r2 := gkeep hgrow2 (akeep x3) hne1
            exact ⟨by (((try go_split_ands); (try dsimp only); (repeat' apply And.intro)) <;> (repeat (first | with_reducible assumption | ((with_reducible refine cnew0 ?_); simp; done) | ((with_reducible refine cnew1 ?_); simp; done) | (with_reducible refine akeep ?_) | (with_reducible refine dkeep ?_) | ((with_reducible refine skeep ?_ ?_); rotate_left; (first | ((try dsimp only); omega) | (simp; done) | (simp; omega))) | (with_reducible refine bkeep hb3 ?_))))⟩
          · have r2 := gfkeep hgrow2 (afkeep zx3 (by omega)) (by simp; omega) hne1
            rw [World.frozen?_setCell]; exact r2
          · exact ⟨World.cell?_setCell_same _ _ _ q2⟩
          · rw [World.frozen?_setCell]; exact zq2
          · exact ((B3.alloc (by omega) _).grown hgrow2 (by simp; omega) (fun j hj => by have := hge j hj; omega)).setCell (by dsimp only; omega) _
        case measure => simp [intOf]; omega
    · obtain rfl : k = P.length := by omega
      have q0 := hq.c0
      have r0 := hr.c0
      obtain ⟨qa, qn, qc, rfl⟩ : ∃ a n c, x = .slice a n c := own_shape hown
      have KO : Hid (mvOk P dx dy) := Lib.hid hall.out
      go_wp2_with fail
      refine bodyPost_ret (v := .tuple #[.agg #[.slice qa qn qc], .bool true]) ?_ rfl ⟨.inr ⟨KO.out, _, rfl, ?_⟩, by (repeat (first | exact Below.refl _ _ | refine Below.setCell ?_ (by first | (simp; done) | (simp; omega) | omega) _ | refine belowN ?_ _ | refine Below.drew ?_ | refine Below.alloc ?_ (by first | (simp; done) | (simp; omega) | omega) _ | refine Below.trans ?_ (Below.mono (by assumption) (by first | (simp; done) | (simp; omega) | omega))))⟩
      · simp [results, Try.results48, go_sem, r0, hz]
      · unfold OwnA
        rw [mvP_len]
        exact (OwnC.of_row (ownsRow_setCell_below hown (by dsimp only; omega) _)).mono (by omega) (Nat.le_refl _)

set_option maxRecDepth 100000 in
set_option maxHeartbeats 2000000 in
set_option linter.unusedSimpArgs false in
theorem specMove_any (v1 : Value) (P1 : List Pl) (dx dy : Int) (w : World) (h1 : Plcs w v1 P1) :
    Calls Try.prog 14 #[.agg #[v1], .agg #[.int .i64 dx, .int .i64 dy]] w fun e w' => MvPost w P1 dx dy e w' ∧ Below w.heap.size w w' := by
  have HV := Lib.hid h1
  obtain ⟨ao, cap, rfl, -, -, -⟩ := h1.open_
  have HB := Lib.hid (boxes_m w (.slice ao P1.length cap) (.int .i64 dx) (.int .i64 dy) 30 34 30)
  clear h1
  go_enter Try.func14, Try.ntmps14
  go_wp2_with fail
  refine (l03Form_any _ _ P1 _ HB.out.1 (HV.out.below (by (repeat (first | exact Below.refl _ _ | refine Below.setCell ?_ (by first | (simp; done) | (simp; omega) | omega) _ | refine belowN ?_ _ | refine Below.drew ?_ | refine Below.alloc ?_ (by first | (simp; done) | (simp; omega) | omega) _ | refine Below.trans ?_ (Below.mono (by assumption) (by first | (simp; done) | (simp; omega) | omega))))))).mono ?_
  rintro e w1 ⟨rfl, hb1⟩
  have B1 : Below w.heap.size w w1 := by (repeat (first | exact Below.refl _ _ | refine Below.setCell ?_ (by first | (simp; done) | (simp; omega) | omega) _ | refine belowN ?_ _ | refine Below.drew ?_ | refine Below.alloc ?_ (by first | (simp; done) | (simp; omega) | omega) _ | refine Below.trans ?_ (Below.mono (by assumption) (by first | (simp; done) | (simp; omega) | omega))))
  have z1 := B1.size
  have A1 := Lib.hid (HB.out.1.below hb1)
  have D1 := Lib.hid (HB.out.2.1.below hb1)
  have R1 := Lib.hid (HB.out.2.2.1.below hb1)
  have Z1 := Lib.hid ((hb1.frozen (p := ⟨w.heap.size + 1 + 1, 0, none⟩) (by simp)).trans HB.out.2.2.2)
  have l1 := R1.out.lt
  clear hb1 HB
  have x0 := R1.out.c0
  have zx := Z1.out
  obtain ⟨d0, d1, -, -⟩ := D1.out
  cases hf : formB P1
  · have K := Lib.hid (mv_no (W := w) (w' := (w1.setCell ⟨w.heap.size + 1 + 1, 0, none⟩ (.slice none 0 0))) (mv_1 (dx := dx) (dy := dy) hf) (by decide))
    go_wp2_with fail
    refine bodyPost_ret (v := .tuple #[.agg #[.slice none 0 0], .int .i64 1]) ?_ rfl ⟨K.out, by (repeat (first | exact Below.refl _ _ | refine Below.setCell ?_ (by first | (simp; done) | (simp; omega) | omega) _ | refine belowN ?_ _ | refine Below.drew ?_ | refine Below.alloc ?_ (by first | (simp; done) | (simp; omega) | omega) _ | refine Below.trans ?_ (Below.mono (by assumption) (by first | (simp; done) | (simp; omega) | omega))))⟩
    simp [results, Try.results14, go_sem, x0, zx]
  have HF := Lib.hid hf
  clear hf
  cases hx : inB dx (-120) 120
  · have K := Lib.hid (mv_no (W := w) (w' := (w1.setCell ⟨w.heap.size + 1 + 1, 0, none⟩ (.slice none 0 0))) (mv_2 HF.out (dx := dx) (dy := dy) (by rw [hx]; simp)) (by decide))
    go_wp2_with (go_at_call 47; refine (l00In_any _ _ _ _).mono ?_; rintro e w2 ⟨rfl, rfl⟩; rw [hx])
    refine bodyPost_ret (v := .tuple #[.agg #[.slice none 0 0], .int .i64 2]) ?_ rfl ⟨K.out, by (repeat (first | exact Below.refl _ _ | refine Below.setCell ?_ (by first | (simp; done) | (simp; omega) | omega) _ | refine belowN ?_ _ | refine Below.drew ?_ | refine Below.alloc ?_ (by first | (simp; done) | (simp; omega) | omega) _ | refine Below.trans ?_ (Below.mono (by assumption) (by first | (simp; done) | (simp; omega) | omega))))⟩
    simp [results, Try.results14, go_sem, x0, zx]
  cases hy : inB dy (-120) 120
  · have K := Lib.hid (mv_no (W := w) (w' := (w1.setCell ⟨w.heap.size + 1 + 1, 0, none⟩ (.slice none 0 0))) (mv_2 HF.out (dx := dx) (dy := dy) (by rw [hy]; simp)) (by decide))
    go_wp2_with (go_at_call 47; refine (l00In_any _ _ _ _).mono ?_; rintro e w2 ⟨rfl, rfl⟩; first | rw [hx] | rw [hy])
    refine bodyPost_ret (v := .tuple #[.agg #[.slice none 0 0], .int .i64 2]) ?_ rfl ⟨K.out, by (repeat (first | exact Below.refl _ _ | refine Below.setCell ?_ (by first | (simp; done) | (simp; omega) | omega) _ | refine belowN ?_ _ | refine Below.drew ?_ | refine Below.alloc ?_ (by first | (simp; done) | (simp; omega) | omega) _ | refine Below.trans ?_ (Below.mono (by assumption) (by first | (simp; done) | (simp; omega) | omega))))⟩
    simp [results, Try.results14, go_sem, x0, zx]
  have FF := Lib.hid (formB_iff.1 HF.out)
  have bx := inB_iff.1 hx
  have by' := inB_iff.1 hy
  have HX := Lib.hid hx
  have HY := Lib.hid hy
  go_wp2_with (go_at_call 47; refine (l00In_any _ _ _ _).mono ?_; rintro e w2 ⟨rfl, rfl⟩; first | rw [hx] | rw [hy])
  refine (l03Move_any _ _ P1 dx dy _ A1.out (HV.out.below B1) FF.out bx by').mono ?_
  rintro e w2 ⟨hpost, hb2⟩
  have B2 : Below w.heap.size w w2 := by (repeat (first | exact Below.refl _ _ | refine Below.setCell ?_ (by first | (simp; done) | (simp; omega) | omega) _ | refine belowN ?_ _ | refine Below.drew ?_ | refine Below.alloc ?_ (by first | (simp; done) | (simp; omega) | omega) _ | refine Below.trans ?_ (Below.mono (by assumption) (by first | (simp; done) | (simp; omega) | omega))))
  have R2 := Lib.hid (R1.out.below hb2)
  have zx2 := (hb2.frozen (p := ⟨w.heap.size + 1 + 1, 0, none⟩) (by dsimp only; omega)).trans zx
  have l2 := R2.out.lt
  clear hb2 x0 zx d0 d1 hx hy
  have x0 := R2.out.c0
  rcases hpost with ⟨hn, rfl⟩ | ⟨ho, v', rfl, own⟩
  · have hc : mvC P1 dx dy = 2 := mv_2 HF.out fun a => hn a.2.2
    have HC := Lib.hid hc
    clear hc hn
    go_wp2_with fail
    refine bodyPost_ret (v := .tuple #[.agg #[.slice none 0 0], .int .i64 2]) ?_ rfl ⟨mv_no HC.out (by decide), by (repeat (first | exact Below.refl _ _ | refine Below.setCell ?_ (by first | (simp; done) | (simp; omega) | omega) _ | refine belowN ?_ _ | refine Below.drew ?_ | refine Below.alloc ?_ (by first | (simp; done) | (simp; omega) | omega) _ | refine Below.trans ?_ (Below.mono (by assumption) (by first | (simp; done) | (simp; omega) | omega))))⟩
    simp [results, Try.results14, go_sem, x0, zx2, l2]
  · have HC := Lib.hid (mv_0 HF.out HX.out HY.out ho)
    have HO := Lib.hid own
    obtain ⟨va, vn, vc, rfl⟩ := own.plcs.shape
    clear own ho
    go_wp2_with fail
    refine bodyPost_ret (v := .tuple #[.agg #[.slice va vn vc], .int .i64 0]) ?_ rfl ⟨⟨_, by rw [HC.out], ?_⟩, by (repeat (first | exact Below.refl _ _ | refine Below.setCell ?_ (by first | (simp; done) | (simp; omega) | omega) _ | refine belowN ?_ _ | refine Below.drew ?_ | refine Below.alloc ?_ (by first | (simp; done) | (simp; omega) | omega) _ | refine Below.trans ?_ (Below.mono (by assumption) (by first | (simp; done) | (simp; omega) | omega))))⟩
    · simp [results, Try.results14, go_sem, x0, zx2, l2]
    · have e : mvR P1 dx dy = mvP P1 dx dy := if_pos HC.out
      rw [e]
      have o2 := (HO.out.keep (Within.set (w.heap.size + 1 + 1) (w.heap.size + 1 + 1 + 1) w2 (a := ⟨w.heap.size + 1 + 1, 0, none⟩) (Nat.le_refl _) (Nat.lt_succ_self _) (.slice va vn vc)) (.inr (by omega))).below (w1 := (w2.setCell ⟨w.heap.size + 1 + 1, 0, none⟩ (.slice va vn vc)).alloc (.cells #[.slice va vn vc] 30)) (by (repeat (first | exact Below.refl _ _ | refine Below.setCell ?_ (by first | (simp; done) | (simp; omega) | omega) _ | refine belowN ?_ _ | refine Below.drew ?_ | refine Below.alloc ?_ (by first | (simp; done) | (simp; omega) | omega) _ | refine Below.trans ?_ (Below.mono (by assumption) (by first | (simp; done) | (simp; omega) | omega)))))
      refine OwnA.mono o2 ?_ ?_
      · omega
      · first | (simp [World.setCell]; done) | (simp [World.setCell]; omega)

end Go.Proofs.Ytaeaflbmaokieaa
