/-
  Assemblies: the laws' own copies, comparisons and marks. Conditions: each theorem's own.
-/
import Derived.Test.YtnofbeeihdgmdaaDoorAsm
namespace Go.Proofs.YtnofbeeihdgmdaaDoor
open Go.RowKit

/-- An assembly that has its own memory, from lo to hi. -/
def OwnA (w : World) (lo hi : Nat) (v : Value) (ps : List Pl) : Prop := OwnC w 100 3 lo hi v ps.length (pC ps)
theorem OwnA.plcs {w : World} {lo hi : Nat} {v : Value} {ps : List Pl} (h : OwnA w lo hi v ps) : Plcs w v ps := OwnC.cl h
theorem OwnA.keep {w w1 : World} {lo hi a b : Nat} {v : Value} {ps : List Pl} (h : OwnA w lo hi v ps) (hw : Within a b w w1) (ho : hi ≤ a ∨ b ≤ lo) : OwnA w1 lo hi v ps := OwnC.keep h hw ho
theorem OwnA.below {w w1 : World} {lo hi : Nat} {v : Value} {ps : List Pl} (h : OwnA w lo hi v ps) (hb : Below w.heap.size w w1) : OwnA w1 lo hi v ps := OwnC.below h hb
theorem OwnA.mono {w : World} {lo hi lo' hi' : Nat} {v : Value} {ps : List Pl} (h : OwnA w lo hi v ps) (h1 : lo' ≤ lo) (h2 : hi ≤ hi') : OwnA w lo' hi' v ps := OwnC.mono h h1 h2
theorem Plcs.shape {w : World} {v : Value} {ps : List Pl} (h : Plcs w v ps) : ∃ a k q, v = .slice a k q := Cl.shape h
/-- A copy: its memory is its own, and it is not nil. -/
def NewA (w : World) (lo : Nat) (v : Value) (ps : List Pl) : Prop := OwnA w lo w.heap.size v ps ∧ ∃ a k q, v = .slice (some a) k q
/-- Block p holds one value. -/
structure At1 (w : World) (p : Nat) (v : Value) : Prop where
  c0 : w.cell? ⟨p, 0, none⟩ = some v
theorem At1.below {w w1 : World} {p : Nat} {v : Value} (h : At1 w p v) (hb : Below w.heap.size w w1) : At1 w1 p v := ⟨cell_below hb h.c0⟩
theorem At1.lt {w : World} {p : Nat} {v : Value} (h : At1 w p v) : p < w.heap.size := World.block_lt_of_cell? w ⟨p, 0, none⟩ h.c0
theorem At1.keep {lo hi : Nat} {w w1 : World} {p : Nat} {v : Value} (h : At1 w p v) (hw : Within lo hi w w1) (ho : p < lo ∨ hi ≤ p) : At1 w1 p v := ⟨(World.cell?_of_block (hw.block p h.lt ho)).trans h.c0⟩
theorem At1.new (w : World) (v : Value) (t : TypeId) : At1 (w.alloc (.cells #[v] t)) w.heap.size v := ⟨by simp [go_sem]⟩

/-- Block p holds one value, and is not frozen. -/
structure One (w : World) (p : Nat) (v : Value) : Prop where
  c0 : w.cell? ⟨p, 0, none⟩ = some v
  z0 : w.frozen? ⟨p, 0, none⟩ = false
theorem One.lt {w : World} {p : Nat} {v : Value} (h : One w p v) : p < w.heap.size := World.block_lt_of_cell? w ⟨p, 0, none⟩ h.c0
theorem One.below {w w1 : World} {p : Nat} {v : Value} (h : One w p v) (hb : Below w.heap.size w w1) : One w1 p v := ⟨cell_below hb h.c0, (hb.frozen (p := ⟨p, 0, none⟩) h.lt).trans h.z0⟩
theorem One.new (w : World) (v : Value) (t : TypeId) {n : Nat} (hn : n = w.heap.size) : One (w.alloc (.cells #[v] t)) n v := by
  subst hn; exact ⟨by simp [go_sem], by simp [go_sem]⟩

theorem toAssembly_any (v : Value) (ps : List Pl) (w : World) (hv : Plcs w v ps) (hz : ps.length ≤ 1048576) :
    Calls Tryd.prog 13 #[.agg #[v]] w fun e w' => (∃ v', e = .returned (.agg #[v']) ∧ NewA w' w.heap.size v' ps) ∧ Below w.heap.size w w' := by
  go_enter Tryd.func13, Tryd.ntmps13
  go_wp2_with fail
  refine (toPlacedS_any v ps _ (hv.below (by (repeat (first | exact Below.refl _ _ | refine Below.setCell ?_ (by first | (simp; done) | (simp; omega) | omega) _ | refine belowN ?_ _ | refine Below.drew ?_ | refine Below.alloc ?_ (by first | (simp; done) | (simp; omega) | omega) _ | refine Below.trans ?_ (Below.mono (by assumption) (by first | (simp; done) | (simp; omega) | omega)))))) hz).mono ?_
  rintro e w1 ⟨⟨v', rfl, rfl, og⟩, hb1⟩
  obtain ⟨hc1, hf1, hl1, -⟩ := bfull hb1
  have s1 := hb1.size
  simp at s1 og
  have hgl := og.lt
  simp only [headOf]
  go_wp2_with fail
  refine bodyPost_ret (v := .agg #[.slice (some ⟨w.heap.size + 1 + 1 + 1, 0, none⟩) ps.length ps.length]) ?_ rfl ⟨⟨_, rfl, .inr ⟨w.heap.size + 1 + 1 + 1, ps.length, pCell ps, rfl, Nat.le_refl _, maxLen_of hz, ?_, fun i j hi hj => ?_, by omega, by simp; omega⟩, _, _, _, rfl⟩, by (repeat (first | exact Below.refl _ _ | refine Below.setCell ?_ (by first | (simp; done) | (simp; omega) | omega) _ | refine belowN ?_ _ | refine Below.drew ?_ | refine Below.alloc ?_ (by first | (simp; done) | (simp; omega) | omega) _ | refine Below.trans ?_ (Below.mono (by assumption) (by first | (simp; done) | (simp; omega) | omega))))⟩
  · simp [results, Tryd.results13, go_sem, hc1]
  · refine World.rowIs.of_block (w := w1) og ?_
    rw [Deep.blk_setCell_other _ _ _ _ (by (first | ((try dsimp only); omega) | (simp; done) | (simp; omega))), Deep.blk_setCell_other _ _ _ _ (by (first | ((try dsimp only); omega) | (simp; done) | (simp; omega)))]
  · show pCell ps (i * 3 + j) = _
    unfold pCell
    rw [show (i * 3 + j) / 3 = i by omega, show (i * 3 + j) % 3 = j by omega]

/-- The laws' copy of a point. -/
theorem toPoint_bel (x y : Int) (w : World) : Calls Tryd.prog 14 #[.agg #[.int .i64 x, .int .i64 y]] w fun e w' => e = .returned (.agg #[.int .i64 x, .int .i64 y]) ∧ Below w.heap.size w w' :=
  (toPoint_any x y w).mono fun _ _ ⟨he, hw⟩ => ⟨he, by subst hw; (repeat (first | exact Below.refl _ _ | refine Below.setCell ?_ (by first | (simp; done) | (simp; omega) | omega) _ | refine belowN ?_ _ | refine Below.drew ?_ | refine Below.alloc ?_ (by first | (simp; done) | (simp; omega) | omega) _ | refine Below.trans ?_ (Below.mono (by assumption) (by first | (simp; done) | (simp; omega) | omega))))⟩
theorem eqPoint_yes (x y : Int) (w : World) : Calls Tryd.prog 112 #[.agg #[.int .i64 x, .int .i64 y], .agg #[.int .i64 x, .int .i64 y]] w fun e w' => e = .returned (.bool true) ∧ Below w.heap.size w w' := by
  go_enter Tryd.func112, Tryd.ntmps112
  go_wp2
  go_ret
  exact ⟨rfl, by (repeat (first | exact Below.refl _ _ | refine Below.setCell ?_ (by first | (simp; done) | (simp; omega) | omega) _ | refine belowN ?_ _ | refine Below.drew ?_ | refine Below.alloc ?_ (by first | (simp; done) | (simp; omega) | omega) _ | refine Below.trans ?_ (Below.mono (by assumption) (by first | (simp; done) | (simp; omega) | omega))))⟩
theorem eqPlaced_yes (x y t : Int) (w : World) : Calls Tryd.prog 85 #[.agg #[.int .i64 x, .int .i64 y, .int .i64 t], .agg #[.int .i64 x, .int .i64 y, .int .i64 t]] w fun e w' => e = .returned (.bool true) ∧ Below w.heap.size w w' := by
  go_enter Tryd.func85, Tryd.ntmps85
  go_wp2_with fail
  refine (eqPoint_yes _ _ _).mono ?_
  rintro e w1 ⟨rfl, hb1⟩
  obtain ⟨hc1, hf1, hl1, -⟩ := bfull hb1
  go_wp2
  go_ret
  exact ⟨rfl, by (repeat (first | exact Below.refl _ _ | refine Below.setCell ?_ (by first | (simp; done) | (simp; omega) | omega) _ | refine belowN ?_ _ | refine Below.drew ?_ | refine Below.alloc ?_ (by first | (simp; done) | (simp; omega) | omega) _ | refine Below.trans ?_ (Below.mono (by assumption) (by first | (simp; done) | (simp; omega) | omega))))⟩

set_option maxHeartbeats 400000 in
theorem eqPlacedS_yes (u v : Value) (ps : List Pl) (w : World) (hu : Plcs w u ps) (hv : Plcs w v ps) :
    Calls Tryd.prog 53 #[u, v] w fun e w' => e = .returned (.bool true) ∧ Below w.heap.size w w' := by
  obtain ⟨ao, cap, rfl, hl, hm, hc⟩ := hu.open_
  obtain ⟨bo, cap2, rfl, hl2, hm2, hc2⟩ := hv.open_
  unfold maxLen at hm hm2
  have H0 := Lib.hid hc
  have H2 := Lib.hid hc2
  clear hc hc2 hu hv
  go_enter Tryd.func53, Tryd.ntmps53
  go_wp2_with fail
  go_loopw [5] (fun i wr => ∃ k : Nat, k ≤ ps.length ∧ i = .int .i64 k ∧ Below w.heap.size w wr) (fun i _ => ps.length - (intOf i).toNat)
  case atStart => exact ⟨0, by omega, rfl, by (repeat (first | exact Below.refl _ _ | refine Below.setCell ?_ (by first | (simp; done) | (simp; omega) | omega) _ | refine belowN ?_ _ | refine Below.drew ?_ | refine Below.alloc ?_ (by first | (simp; done) | (simp; omega) | omega) _ | refine Below.trans ?_ (Below.mono (by assumption) (by first | (simp; done) | (simp; omega) | omega))))⟩
  case round =>
    obtain ⟨k, hk, rfl, hbw⟩ := hrel
    by_cases hlt : k < ps.length
    · obtain ⟨b, off, rfl, H1⟩ := H0.out (by omega)
      obtain ⟨b2, off2, rfl, H3⟩ := H2.out (by omega)
      obtain ⟨c0, c1, c2⟩ := H1 k hlt
      obtain ⟨d0, d1, d2⟩ := H3 k hlt
      have c0 := cell_below hbw c0
      have c1 := cell_below hbw c1
      have c2 := cell_below hbw c2
      have d0 := cell_below hbw d0
      have d1 := cell_below hbw d1
      have d2 := cell_below hbw d2
      clear H1 H3
      go_wp2_with fail
      go_region_held3 (fun w' => w'.cell? ⟨b, off + k * 3, none⟩ = some (.int .i64 (pX ps k)) ∧ w'.cell? ⟨b, off + k * 3 + 1, none⟩ = some (.int .i64 (pY ps k)) ∧ w'.cell? ⟨b, off + k * 3 + 2, none⟩ = some (.int .i64 (pT ps k)) ∧ w'.cell? ⟨b2, off2 + k * 3, none⟩ = some (.int .i64 (pX ps k)) ∧ w'.cell? ⟨b2, off2 + k * 3 + 1, none⟩ = some (.int .i64 (pY ps k)) ∧ w'.cell? ⟨b2, off2 + k * 3 + 2, none⟩ = some (.int .i64 (pT ps k))) ((((try go_split_ands); (try dsimp only); (repeat' apply And.intro)) <;> (repeat (first | with_reducible assumption | ((with_reducible refine cnew0 ?_); simp; done) | ((with_reducible refine cnew1 ?_); simp; done) | (with_reducible refine akeep ?_) | (with_reducible refine dkeep ?_) | ((with_reducible refine skeep ?_ ?_); rotate_left; (first | ((try dsimp only); omega) | (simp; done) | (simp; omega))) | (with_reducible refine bkeep hb3 ?_)))))
        ((go_at_call 85; refine (eqPlaced_yes _ _ _ _).mono ?_; rintro e w1 ⟨rfl, hb3⟩))
      have sw := hbw.size
      go_wp2
      go_roundw
      case rel => exact ⟨k + 1, by omega, by go_num, by (repeat (first | exact Below.refl _ _ | refine Below.setCell ?_ (by first | (simp; done) | (simp; omega) | omega) _ | refine belowN ?_ _ | refine Below.drew ?_ | refine Below.alloc ?_ (by first | (simp; done) | (simp; omega) | omega) _ | refine Below.trans ?_ (Below.mono (by assumption) (by first | (simp; done) | (simp; omega) | omega))))⟩
      case measure => simp [intOf]; omega
    · obtain rfl : k = ps.length := by omega
      go_wp2
      go_ret
      exact ⟨rfl, hbw⟩

theorem eqAssembly_yes (u v : Value) (ps : List Pl) (w : World) (hu : Plcs w u ps) (hv : Plcs w v ps) :
    Calls Tryd.prog 17 #[.agg #[u], .agg #[v]] w fun e w' => e = .returned (.bool true) ∧ Below w.heap.size w w' := by
  go_enter Tryd.func17, Tryd.ntmps17
  go_wp2_with fail
  refine (eqPlacedS_yes u v ps _ (hu.below (by (repeat (first | exact Below.refl _ _ | refine Below.setCell ?_ (by first | (simp; done) | (simp; omega) | omega) _ | refine belowN ?_ _ | refine Below.drew ?_ | refine Below.alloc ?_ (by first | (simp; done) | (simp; omega) | omega) _ | refine Below.trans ?_ (Below.mono (by assumption) (by first | (simp; done) | (simp; omega) | omega)))))) (hv.below (by (repeat (first | exact Below.refl _ _ | refine Below.setCell ?_ (by first | (simp; done) | (simp; omega) | omega) _ | refine belowN ?_ _ | refine Below.drew ?_ | refine Below.alloc ?_ (by first | (simp; done) | (simp; omega) | omega) _ | refine Below.trans ?_ (Below.mono (by assumption) (by first | (simp; done) | (simp; omega) | omega))))))).mono ?_
  rintro e w1 ⟨rfl, hb1⟩
  go_wp2
  go_ret
  exact ⟨rfl, by (repeat (first | exact Below.refl _ _ | refine Below.setCell ?_ (by first | (simp; done) | (simp; omega) | omega) _ | refine belowN ?_ _ | refine Below.drew ?_ | refine Below.alloc ?_ (by first | (simp; done) | (simp; omega) | omega) _ | refine Below.trans ?_ (Below.mono (by assumption) (by first | (simp; done) | (simp; omega) | omega))))⟩

/-- The marks from k on, m for each element. -/
def mkC (m k i j : Nat) : Int := ((k + m * i + j : Nat) : Int)
/-- What a row holds when the first q elements have been marked. -/
def mkRow (w : World) (t : TypeId) (m g cap q k : Nat) : Prop := ∃ f, w.rowIs g t (cap * m) f ∧ ∀ i j, i < q → j < m → f (i * m + j) = .int .i64 (mkC m k i j)

set_option maxHeartbeats 400000 in
theorem markPlacedS_any (lo hi : Nat) (v : Value) (n : Nat) (c : Nat → Nat → Int) (k : Nat) (w : World) (h : OwnC w 100 3 lo hi v n c) (hz : n ≤ 1048576) (h2 : k ≤ 1125899906842624) :
    Calls Tryd.prog 60 #[v, .int .i64 (k : Int)] w fun e w' => e = .returned (.int .i64 ((k + 3 * n : Nat) : Int)) ∧ OwnC w' 100 3 lo hi v n (mkC 3 k) ∧ Within lo hi w w' := by
  rcases h with ⟨rfl, rfl⟩ | ⟨g, cap, f, rfl, hl, hm, hr, hf, hlo, hhi⟩
  · go_enter Tryd.func60, Tryd.ntmps60
    go_wp2_with fail
    refine wp_loop_rounds 1 ?_
    rw [rounds_succ]
    go_wp2
    go_ret
    exact ⟨rfl, .inl ⟨rfl, rfl⟩, Within.refl _ _ _⟩
  · have hm' := hm
    unfold maxLen at hm
    have HR := Lib.hid (show mkRow w 100 3 g cap 0 k from ⟨f, hr, fun i j hi _ => by omega⟩)
    clear hr hf
    go_enter Tryd.func60, Tryd.ntmps60
    go_wp2_with fail
    go_loopw [1, 5] (fun m i wr => ∃ j : Nat, j ≤ n ∧ i = .int .i64 j ∧ m = .int .i64 ((k + 3 * j : Nat) : Int) ∧ mkRow wr 100 3 g cap j k ∧ Within lo hi w wr) (fun _ i _ => n - (intOf i).toNat)
    case atStart => exact ⟨0, by omega, rfl, rfl, HR.out, Within.refl _ _ _⟩
    case round =>
      obtain ⟨j, hj, rfl, rfl, hr', hwi⟩ := hrel
      have HR' := Lib.hid hr'
      obtain ⟨f', hr2, hf2⟩ := hr'
      by_cases hlt : j < n
      · have c0 := hr2.cell (i := j * 3) (by omega)
        have c1 := hr2.cell (i := j * 3 + 1) (by omega)
        have c2 := hr2.cell (i := j * 3 + 2) (by omega)
        have z0 := hr2.frozen (j * 3)
        have z1 := hr2.frozen (j * 3 + 1)
        have z2 := hr2.frozen (j * 3 + 2)
        have HF := Lib.hid hf2
        have HR2 := Lib.hid hr2
        clear hf2 hr2
        go_wp2
        go_roundw
        case rel =>
          refine ⟨j + 1, by omega, by go_num, by go_num, ⟨_, ((HR2.out.set (j * 3) _).set (j * 3 + 1) _).set (j * 3 + 2) _, fun i q hi hq => ?_⟩, hwi.trans ((((Within.set1 g wr (j * 3) _).trans (Within.set1 g _ (j * 3 + 1) _)).trans (Within.set1 g _ (j * 3 + 2) _)).mono hlo (by omega))⟩
          by_cases hij : i = j
          · subst hij
            obtain rfl | rfl | rfl : q = 0 ∨ q = 1 ∨ q = 2 := by omega
            all_goals (simp [mkC]; try omega)
          · rw [if_neg (by omega), if_neg (by omega), if_neg (by omega)]
            exact HF.out i q (by omega) hq
        case measure => simp [intOf]; omega
      · obtain rfl : j = n := by omega
        clear hf2 hr2
        go_wp2
        go_ret
        obtain ⟨f3, e1, e2⟩ := HR'.out
        exact ⟨rfl, .inr ⟨g, cap, f3, rfl, hl, hm', e1, e2, hlo, hhi⟩, hwi⟩

/-- The mark behind m numbers each for n elements. -/
def mkE (m n k : Nat) : Nat := k + m * n
theorem mkE_le {m n k : Nat} (hn : n ≤ 1048576) (hm : m ≤ 8) : mkE m n k ≤ k + 8388608 := by
  have : m * n ≤ 8 * 1048576 := Nat.mul_le_mul hm hn
  unfold mkE; omega
/-- A list that holds the marks. -/
def MarkedA (w : World) (v : Value) (n k : Nat) : Prop := Cl w 3 v n (mkC 3 k)
theorem MarkedA.below {w w1 : World} {v : Value} {n k : Nat} (h : MarkedA w v n k) (hb : Below w.heap.size w w1) : MarkedA w1 v n k := Cl.below h hb

theorem markAssembly_any (lo hi : Nat) (v : Value) (ps : List Pl) (k : Nat) (w : World) (h : OwnA w lo hi v ps) (hz : ps.length ≤ 1048576) (h2 : k ≤ 1125899906842624) (_hw : hi ≤ w.heap.size) :
    Calls Tryd.prog 24 #[.agg #[v], .int .i64 (k : Int)] w fun e w' => e = .returned (.int .i64 (mkE 3 ps.length k : Int)) ∧ MarkedA w' v ps.length k ∧ Within lo hi w w' := by
  have HG := Lib.hid h
  clear h
  go_enter Tryd.func24, Tryd.ntmps24
  go_wp2_with fail
  have hal : Below w.heap.size w (w.alloc (.cells #[v] 42)) := by (repeat (first | exact Below.refl _ _ | refine Below.setCell ?_ (by first | (simp; done) | (simp; omega) | omega) _ | refine belowN ?_ _ | refine Below.drew ?_ | refine Below.alloc ?_ (by first | (simp; done) | (simp; omega) | omega) _ | refine Below.trans ?_ (Below.mono (by assumption) (by first | (simp; done) | (simp; omega) | omega))))
  have W0 : Within lo hi w (w.alloc (.cells #[v] 42)) := Within.of hal
  refine (markPlacedS_any lo hi v ps.length (pC ps) k _ (HG.out.keep (Within.of (lo := 0) (hi := 0) hal) (.inr (Nat.zero_le _))) hz h2).mono ?_
  rintro e w1 ⟨rfl, hg1, hw1⟩
  go_wp2
  go_ret
  exact ⟨rfl, hg1.cl, W0.trans hw1⟩

theorem markAssembly_one (lo hi : Nat) (v : Value) (ps : List Pl) (w : World) (h : OwnA w lo hi v ps) (hz : ps.length ≤ 1048576) (hw : hi ≤ w.heap.size) :
    Calls Tryd.prog 24 #[.agg #[v], .int .i64 1] w fun e w' => e = .returned (.int .i64 (mkE 3 ps.length 1 : Int)) ∧ MarkedA w' v ps.length 1 ∧ Within lo hi w w' :=
  markAssembly_any lo hi v ps 1 w h hz (by omega) hw
end Go.Proofs.YtnofbeeihdgmdaaDoor
