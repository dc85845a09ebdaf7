/-
  Lists of bonds as results: the laws' comparisons and marks; BondsOf, the model's and the program's. Conditions: each theorem's own; the program's reads the listed table of steps.
-/
import Derived.Test.YtnofbeeihdgmdaaDoorCol
import Derived.Test.YtnofbeeihdgmdaaDoorMark
namespace Go.Proofs.YtnofbeeihdgmdaaDoor
open Go.RowKit

/-- v is a slice of these bonds. -/
def Bnds (w : World) (v : Value) (L : List Bd) : Prop := Cl w 3 v L.length (bC L)
theorem Bnds.below {w w1 : World} {v : Value} {L : List Bd} (h : Bnds w v L) (hb : Below w.heap.size w w1) : Bnds w1 v L := Cl.below h hb
theorem Bnds.shape {w : World} {v : Value} {L : List Bd} (h : Bnds w v L) : ∃ a k q, v = .slice a k q := Cl.shape h
theorem OwnB.bnds {w : World} {lo hi : Nat} {v : Value} {L : List Bd} (h : OwnB w lo hi v L) : Bnds w v L := OwnC.cl h
theorem OwnB.keep {w w1 : World} {lo hi a b : Nat} {v : Value} {L : List Bd} (h : OwnB w lo hi v L) (hw : Within a b w w1) (ho : hi ≤ a ∨ b ≤ lo) : OwnB w1 lo hi v L := OwnC.keep h hw ho
theorem OwnB.below {w w1 : World} {lo hi : Nat} {v : Value} {L : List Bd} (h : OwnB w lo hi v L) (hb : Below w.heap.size w w1) : OwnB w1 lo hi v L := OwnC.below h hb
theorem OwnB.mono {w : World} {lo hi lo' hi' : Nat} {v : Value} {L : List Bd} (h : OwnB w lo hi v L) (h1 : lo' ≤ lo) (h2 : hi ≤ hi') : OwnB w lo' hi' v L := OwnC.mono h h1 h2
/-- .. that holds the marks. -/
def MarkedB (w : World) (v : Value) (n k : Nat) : Prop := Cl w 3 v n (mkC 3 k)
theorem MarkedB.below {w w1 : World} {v : Value} {n k : Nat} (h : MarkedB w v n k) (hb : Below w.heap.size w w1) : MarkedB w1 v n k := Cl.below h hb
theorem Cl.nilB (w : World) (m : Nat) (c : Nat → Nat → Int) : Cl w m (.slice none 0 0) 0 c := ⟨none, 0, rfl, Nat.le_refl _, by unfold maxLen; omega, fun h => absurd h (Nat.lt_irrefl 0)⟩

theorem eqBond_yes (a b s : Int) (w : World) : Calls Tryd.prog 57 #[.agg #[.int .i64 a, .int .i64 b, .int .i64 s], .agg #[.int .i64 a, .int .i64 b, .int .i64 s]] w fun e w' => e = .returned (.bool true) ∧ Below w.heap.size w w' := by
  go_enter Tryd.func57, Tryd.ntmps57
  go_wp2_with fail
  go_ret
  exact ⟨rfl, by (repeat (first | exact Below.refl _ _ | refine Below.setCell ?_ (by first | (simp; done) | (simp; omega) | omega) _ | refine belowN ?_ _ | refine Below.drew ?_ | refine Below.alloc ?_ (by first | (simp; done) | (simp; omega) | omega) _ | refine Below.trans ?_ (Below.mono (by assumption) (by first | (simp; done) | (simp; omega) | omega))))⟩
set_option maxHeartbeats 800000 in
theorem eqBondS_yes (u v : Value) (L : List Bd) (w : World) (hu : Bnds w u L) (hv : Bnds w v L) :
    Calls Tryd.prog 22 #[u, v] w fun e w' => e = .returned (.bool true) ∧ Below w.heap.size w w' := by
  obtain ⟨ao, cap, rfl, hl, hm, hc⟩ := hu
  obtain ⟨bo, cap2, rfl, hl2, hm2, hc2⟩ := hv
  unfold maxLen at hm hm2
  have H0 := Lib.hid hc
  have H2 := Lib.hid hc2
  clear hc hc2
  go_enter Tryd.func22, Tryd.ntmps22
  go_wp2_with fail
  go_loopw [5] (fun i wr => ∃ k : Nat, k ≤ L.length ∧ i = .int .i64 k ∧ Below w.heap.size w wr) (fun i _ => L.length - (intOf i).toNat)
  case atStart => exact ⟨0, by omega, rfl, by (repeat (first | exact Below.refl _ _ | refine Below.setCell ?_ (by first | (simp; done) | (simp; omega) | omega) _ | refine belowN ?_ _ | refine Below.drew ?_ | refine Below.alloc ?_ (by first | (simp; done) | (simp; omega) | omega) _ | refine Below.trans ?_ (Below.mono (by assumption) (by first | (simp; done) | (simp; omega) | omega))))⟩
  case round =>
    obtain ⟨k, hk, rfl, hbw⟩ := hrel
    by_cases hlt : k < L.length
    · obtain ⟨b, off, rfl, H1⟩ := H0.out (by omega)
      obtain ⟨b2, off2, rfl, H3⟩ := H2.out (by omega)
      have c0 := cell_below hbw (H1 k 0 hlt (by omega))
      have c1 := cell_below hbw (H1 k 1 hlt (by omega))
      have c2 := cell_below hbw (H1 k 2 hlt (by omega))
      have d0 := cell_below hbw (H3 k 0 hlt (by omega))
      have d1 := cell_below hbw (H3 k 1 hlt (by omega))
      have d2 := cell_below hbw (H3 k 2 hlt (by omega))
      rw [Nat.add_zero] at c0 d0
      clear H1 H3
      go_wp2_with fail
      go_region_held3 (fun w' => w'.cell? ⟨b, off + k * 3, none⟩ = some (.int .i64 (bC L k 0)) ∧ w'.cell? ⟨b, off + k * 3 + 1, none⟩ = some (.int .i64 (bC L k 1)) ∧ w'.cell? ⟨b, off + k * 3 + 2, none⟩ = some (.int .i64 (bC L k 2)) ∧ w'.cell? ⟨b2, off2 + k * 3, none⟩ = some (.int .i64 (bC L k 0)) ∧ w'.cell? ⟨b2, off2 + k * 3 + 1, none⟩ = some (.int .i64 (bC L k 1)) ∧ w'.cell? ⟨b2, off2 + k * 3 + 2, none⟩ = some (.int .i64 (bC L k 2))) ((((try go_split_ands); (try dsimp only); (repeat' apply And.intro)) <;> (repeat (first | with_reducible assumption | ((with_reducible refine cnew0 ?_); simp; done) | ((with_reducible refine cnew1 ?_); simp; done) | (with_reducible refine akeep ?_) | (with_reducible refine dkeep ?_) | ((with_reducible refine skeep ?_ ?_); rotate_left; (first | ((try dsimp only); omega) | (simp; done) | (simp; omega))) | (with_reducible refine bkeep hb3 ?_)))))
        ((go_at_call 57; refine (eqBond_yes _ _ _ _).mono ?_; rintro e w1 ⟨rfl, hb3⟩))
      have sw := hbw.size
      go_wp2
      go_roundw
      case rel => exact ⟨k + 1, by omega, by go_num, by (repeat (first | exact Below.refl _ _ | refine Below.setCell ?_ (by first | (simp; done) | (simp; omega) | omega) _ | refine belowN ?_ _ | refine Below.drew ?_ | refine Below.alloc ?_ (by first | (simp; done) | (simp; omega) | omega) _ | refine Below.trans ?_ (Below.mono (by assumption) (by first | (simp; done) | (simp; omega) | omega))))⟩
      case measure => simp [intOf]; omega
    · obtain rfl : k = L.length := by omega
      go_wp2
      go_ret
      exact ⟨rfl, hbw⟩

set_option maxHeartbeats 1600000 in
theorem markBondS_one (lo hi : Nat) (v : Value) (L : List Bd) (w : World) (h : OwnB w lo hi v L) (hz : L.length ≤ 1048576) (_hw : hi ≤ w.heap.size) :
    Calls Tryd.prog 25 #[v, .int .i64 1] w fun e w' => e = .returned (.int .i64 (mkE 3 L.length 1 : Int)) ∧ MarkedB w' v L.length 1 ∧ Within lo hi w w' := by
  rcases h with ⟨rfl, h0⟩ | ⟨g, cap, f, rfl, hl, hm, hr, hf, hlo, hhi⟩
  · rw [h0]
    go_enter Tryd.func25, Tryd.ntmps25
    go_wp2_with fail
    refine wp_loop_rounds 1 ?_
    rw [rounds_succ]
    go_wp2
    go_ret
    exact ⟨rfl, Cl.nilB _ _ _, Within.refl _ _ _⟩
  · have hm' := hm
    unfold maxLen at hm
    have HR := Lib.hid (show mkRow w 86 3 g cap 0 1 from ⟨f, hr, fun i j hi _ => by omega⟩)
    clear hr hf
    go_enter Tryd.func25, Tryd.ntmps25
    go_wp2_with fail
    go_loopw [1, 5] (fun m i wr => ∃ j : Nat, j ≤ L.length ∧ i = .int .i64 j ∧ m = .int .i64 ((1 + 3 * j : Nat) : Int) ∧ mkRow wr 86 3 g cap j 1 ∧ Within lo hi w wr) (fun _ i _ => L.length - (intOf i).toNat)
    case atStart => exact ⟨0, by omega, rfl, rfl, HR.out, Within.refl _ _ _⟩
    case round =>
      obtain ⟨j, hj, rfl, rfl, hr', hwi⟩ := hrel
      have HR' := Lib.hid hr'
      obtain ⟨f', hr2, hf2⟩ := hr'
      by_cases hlt : j < L.length
      · have c0 := hr2.cell (i := j * 3) (by omega)
        have c1 := hr2.cell (i := j * 3 + 1) (by omega)
        have c2 := hr2.cell (i := j * 3 + 2) (by omega)
        have z0 := hr2.frozen (j * 3)
        have z1 := hr2.frozen (j * 3 + 1)
        have z2 := hr2.frozen (j * 3 + 2)
        have HF := Lib.hid hf2
        have HR2 := Lib.hid hr2
        clear hf2 hr2
        go_wp2
        go_roundw
        case rel =>
          refine ⟨j + 1, by omega, by go_num, by go_num, ⟨_, ((HR2.out.set (j * 3) _).set (j * 3 + 1) _).set (j * 3 + 2) _, fun i q hi hq => ?_⟩, hwi.trans ((((Within.set1 g wr (j * 3) _).trans (Within.set1 g _ (j * 3 + 1) _)).trans (Within.set1 g _ (j * 3 + 2) _)).mono hlo (by omega))⟩
          by_cases hij : i = j
          · subst hij
            obtain rfl | rfl | rfl : q = 0 ∨ q = 1 ∨ q = 2 := by omega
            all_goals (simp [mkC]; try omega)
          · rw [if_neg (by omega), if_neg (by omega), if_neg (by omega)]
            exact HF.out i q (by omega) hq
        case measure => simp [intOf]; omega
      · obtain rfl : j = L.length := by omega
        clear hf2 hr2
        go_wp2
        go_ret
        obtain ⟨f3, e1, e2⟩ := HR'.out
        exact ⟨rfl, OwnC.cl (lo := lo) (hi := hi) (.inr ⟨g, cap, f3, rfl, hl, hm', e1, e2, hlo, hhi⟩), hwi⟩

set_option maxHeartbeats 800000 in
theorem heldBondS_one (v : Value) (n : Nat) (w : World) (h : MarkedB w v n 1) (hz : n ≤ 1048576) :
    Calls Tryd.prog 26 #[v, .int .i64 1] w fun e w' => e = .returned (.int .i64 (mkE 3 n 1 : Int)) ∧ Below w.heap.size w w' := by
  obtain ⟨ao, cap, rfl, hl, hm, hc⟩ := h
  unfold maxLen at hm
  have H0 := Lib.hid hc
  clear hc
  go_enter Tryd.func26, Tryd.ntmps26
  go_wp2_with fail
  go_loop [1, 5] (fun m i => ∃ j : Nat, j ≤ n ∧ i = .int .i64 j ∧ m = .int .i64 ((1 + 3 * j : Nat) : Int)) (fun _ i => n - (intOf i).toNat)
  case atStart => exact ⟨0, by omega, rfl, rfl⟩
  case round =>
    obtain ⟨j, hj, rfl, rfl⟩ := hrel
    by_cases hlt : j < n
    · obtain ⟨b, off, rfl, H1⟩ := H0.out (by omega)
      have c0 := H1 j 0 hlt (by omega)
      have c1 := H1 j 1 hlt (by omega)
      have c2 := H1 j 2 hlt (by omega)
      simp [mkC] at c0 c1 c2
      clear H1
      go_wp2
      go_round
      case rel => exact ⟨j + 1, by omega, by go_num, by go_num⟩
      case measure => simp [intOf]; omega
    · obtain rfl : j = n := by omega
      go_wp2
      go_ret
      exact ⟨rfl, Below.refl _ _⟩

/-- What a call returns that makes a list of bonds, or an error. -/
def BoPost (W : World) (L : List Bd) (c : Int) (e : Ending) (w' : World) : Prop := ∃ v', e = .returned (.tuple #[v', .int .i64 c]) ∧ OwnB w' W.heap.size w'.heap.size v' L
open Classical in
/-- BondsOf: the bonds. -/
noncomputable def boL (S : Set_) (ps : List Pl) : List Bd := if vaB S ps = true then bdsT S ps (tcs ps ps.length) else []
theorem boL_yes {S : Set_} {ps : List Pl} (h : vaB S ps = true) : boL S ps = bdsT S ps (tcs ps ps.length) := by unfold boL; rw [if_pos h]
theorem boL_no {S : Set_} {ps : List Pl} (h : vaB S ps = false) : boL S ps = [] := by unfold boL; rw [if_neg (by rw [h]; simp)]
theorem smallBondsOf {S : Set_} {ps : List Pl} (_h : S.small) (_h2 : ps.length ≤ 1048576) : (boL S ps).length ≤ 1048576 := by
  unfold boL
  split
  · rename_i h
    have := bdsT_small (S := S) (List.prefix_refl (tcs ps ps.length)) (vaB_va h).F.len
    omega
  · exact Nat.zero_le _

set_option maxRecDepth 100000 in
set_option maxHeartbeats 4000000 in
set_option linter.unusedSimpArgs false in
theorem specBondsOf_law (vg1 vt1 : Value) (S1 : Set_) (v2 : Value) (P2 : List Pl) (w : World) (h1 : SetIn w vg1 vt1 S1) (_s1 : ∃ a k q, vg1 = .slice (some a) k q) (ok1 : S1.ok) (m1 : S1.small) (h2 : Plcs w v2 P2) (_s2 : ∃ a k q, v2 = .slice (some a) k q) (_o2 : ∀ p ∈ P2, p.ok) (_m2 : P2.length ≤ 1048576) :
    Calls Tryd.prog 20 #[.agg #[vg1, vt1], .agg #[v2]] w fun e w' => BoPost w (boL S1 P2) (askC S1 P2) e w' ∧ Below w.heap.size w w' := by
  have HS := Lib.hid h1
  have HV := Lib.hid h2
  have HB := Lib.hid (boxes_sa w vg1 vt1 v2 38 42)
  clear h1 h2
  go_enter Tryd.func20, Tryd.ntmps20
  go_wp2_with fail
  refine (l06Asked_any _ _ vg1 vt1 v2 S1 P2 _ HB.out.1 HB.out.2 (HS.out.below (by (repeat (first | exact Below.refl _ _ | refine Below.setCell ?_ (by first | (simp; done) | (simp; omega) | omega) _ | refine belowN ?_ _ | refine Below.drew ?_ | refine Below.alloc ?_ (by first | (simp; done) | (simp; omega) | omega) _ | refine Below.trans ?_ (Below.mono (by assumption) (by first | (simp; done) | (simp; omega) | omega)))))) ok1 m1 (HV.out.below (by (repeat (first | exact Below.refl _ _ | refine Below.setCell ?_ (by first | (simp; done) | (simp; omega) | omega) _ | refine belowN ?_ _ | refine Below.drew ?_ | refine Below.alloc ?_ (by first | (simp; done) | (simp; omega) | omega) _ | refine Below.trans ?_ (Below.mono (by assumption) (by first | (simp; done) | (simp; omega) | omega))))))).mono ?_
  rintro e w1 ⟨rfl, hb1⟩
  have B1 : Below w.heap.size w w1 := by (repeat (first | exact Below.refl _ _ | refine Below.setCell ?_ (by first | (simp; done) | (simp; omega) | omega) _ | refine belowN ?_ _ | refine Below.drew ?_ | refine Below.alloc ?_ (by first | (simp; done) | (simp; omega) | omega) _ | refine Below.trans ?_ (Below.mono (by assumption) (by first | (simp; done) | (simp; omega) | omega))))
  have z1 := B1.size
  have G1 := Lib.hid (HB.out.1.below hb1)
  have A1 := Lib.hid (HB.out.2.below hb1)
  clear hb1 HB
  cases hv : vaB S1 P2
  · have K := Lib.hid (boL_no hv)
    have K2 := Lib.hid (askC_no hv)
    rw [askC_no hv]
    go_wp2_with fail
    go_ret2
    exact ⟨⟨_, by rw [K2.out]; rfl, by rw [K.out]; exact .inl ⟨rfl, rfl⟩⟩, B1⟩
  have HVa := Lib.hid (vaB_va hv)
  have K := Lib.hid (boL_yes hv)
  have K2 := Lib.hid (askC_yes hv)
  rw [askC_yes hv]
  clear hv
  go_wp2_with fail
  refine (l06Bonds_any _ _ vg1 vt1 v2 S1 P2 _ G1.out A1.out (HS.out.below B1) m1 (HV.out.below B1) HVa.out).mono ?_
  rintro e w2 ⟨⟨v', rfl, ho⟩, hb2⟩
  have HO := Lib.hid ho
  clear ho
  go_wp2_with fail
  go_ret2
  exact ⟨⟨_, by rw [K2.out]; rfl, by rw [K.out]; exact HO.out.mono z1 (Nat.le_refl _)⟩, B1.trans (hb2.mono z1)⟩

set_option maxRecDepth 100000 in
set_option maxHeartbeats 4000000 in
set_option linter.unusedSimpArgs false in
theorem implBondsOf_law (vg1 vt1 : Value) (S1 : Set_) (v2 : Value) (P2 : List Pl) (w : World) (h1 : SetIn w vg1 vt1 S1) (s1 : ∃ a k q, vg1 = .slice (some a) k q) (ok1 : S1.ok) (m1 : S1.small) (h2 : Plcs w v2 P2) (s2 : ∃ a k q, v2 = .slice (some a) k q) (o2 : ∀ p ∈ P2, p.ok) (m2 : P2.length ≤ 1048576) (hT : Steps w) :
    Calls Tryd.prog 21 #[.agg #[vg1, vt1], .agg #[v2]] w fun e w' => BoPost w (boL S1 P2) (askC S1 P2) e w' ∧ Below w.heap.size w w' := by
  have HS := Lib.hid h1
  have HV := Lib.hid h2
  have HT := Lib.hid hT
  have HB := Lib.hid (boxes_sa w vg1 vt1 v2 38 42)
  clear h1 h2 hT
  obtain ⟨b0, b1⟩ := HB.out.1
  obtain ⟨b2⟩ := HB.out.2
  go_enter Tryd.func21, Tryd.ntmps21
  go_wp2_with fail
  refine (implValidAssembly_law vg1 vt1 S1 v2 P2 _ (HS.out.below (by (repeat (first | exact Below.refl _ _ | refine Below.setCell ?_ (by first | (simp; done) | (simp; omega) | omega) _ | refine belowN ?_ _ | refine Below.drew ?_ | refine Below.alloc ?_ (by first | (simp; done) | (simp; omega) | omega) _ | refine Below.trans ?_ (Below.mono (by assumption) (by first | (simp; done) | (simp; omega) | omega)))))) s1 ok1 m1 (HV.out.below (by (repeat (first | exact Below.refl _ _ | refine Below.setCell ?_ (by first | (simp; done) | (simp; omega) | omega) _ | refine belowN ?_ _ | refine Below.drew ?_ | refine Below.alloc ?_ (by first | (simp; done) | (simp; omega) | omega) _ | refine Below.trans ?_ (Below.mono (by assumption) (by first | (simp; done) | (simp; omega) | omega)))))) s2 o2 m2).mono ?_
  rintro e w1 ⟨rfl, hb1⟩
  have B1 : Below w.heap.size w w1 := by (repeat (first | exact Below.refl _ _ | refine Below.setCell ?_ (by first | (simp; done) | (simp; omega) | omega) _ | refine belowN ?_ _ | refine Below.drew ?_ | refine Below.alloc ?_ (by first | (simp; done) | (simp; omega) | omega) _ | refine Below.trans ?_ (Below.mono (by assumption) (by first | (simp; done) | (simp; omega) | omega))))
  have z1 := B1.size
  have G1 := Lib.hid (HB.out.1.below hb1)
  have A1 := Lib.hid (HB.out.2.below hb1)
  clear hb1 HB b0 b1 b2
  cases hv : vaB S1 P2
  · have K := Lib.hid (boL_no hv)
    have K2 := Lib.hid (askC_no hv)
    go_wp2_with fail
    go_ret2
    exact ⟨⟨_, by rw [K2.out]; rfl, by rw [K.out]; exact .inl ⟨rfl, rfl⟩⟩, B1⟩
  have HVa := Lib.hid (vaB_va hv)
  have K := Lib.hid (boL_yes hv)
  have K2 := Lib.hid (askC_yes hv)
  clear hv
  obtain ⟨g0, g1⟩ := G1.out
  obtain ⟨a0⟩ := A1.out
  go_wp2_with fail
  refine (bonds_any _ _ _ _).mono ?_
  rintro e w2 ⟨rfl, rfl⟩
  have GB : At ((w1.alloc (.cells #[vg1, vt1] 38)).alloc (.cells #[v2] 42)) w1.heap.size vg1 vt1 := ⟨by simp [go_sem], by simp [go_sem]⟩
  have AB : At1 ((w1.alloc (.cells #[vg1, vt1] 38)).alloc (.cells #[v2] 42)) (w1.heap.size + 1) v2 := ⟨by simp [go_sem]⟩
  have zW : ((w1.alloc (.cells #[vg1, vt1] 38)).alloc (.cells #[v2] 42)).heap.size = w1.heap.size + 2 := by simp
  have BW : Below w.heap.size w ((w1.alloc (.cells #[vg1, vt1] 38)).alloc (.cells #[v2] 42)) := (B1.alloc z1 _).alloc (by simp; omega) _
  have hgv := Lib.hid (bonds_gives w w1.heap.size (w1.heap.size + 1) vg1 vt1 v2 S1 P2 (fun k => k < w1.heap.size + 2) _ BW (fun k h => by omega) (by omega) (by omega) (fun k h => by omega) GB AB HS.out m1 HV.out HVa.out HT.out)
  have hsm := bdsT_small (S := S1) (List.prefix_refl (tcs P2 P2.length)) HVa.out.F.len
  clear GB AB g0 g1 a0
  go_wp2_with fail
  refine (collect_any _ _ _ _ _ hgv.out (enters_of Tryd.func87 (by kernel_rfl) rfl) hsm (fun k h => by omega)).mono ?_
  rintro e w3 ⟨⟨v', rfl, ho⟩, hb3⟩
  have HO := Lib.hid ho
  have z3 := BW.size
  clear ho
  go_wp2_with fail
  go_ret2
  exact ⟨⟨_, by rw [K2.out]; rfl, by rw [K.out]; exact HO.out.mono z3 (Nat.le_refl _)⟩, BW.trans (hb3.mono z3)⟩
end Go.Proofs.YtnofbeeihdgmdaaDoor
