/-
  The sum of the strengths of all bonds, the model's and the program's. Conditions: each theorem's own; the program's reads the listed table of steps.
-/
import Derived.Test.YtnofbeeihdgmdaaDoorBdM
namespace Go.Proofs.YtnofbeeihdgmdaaDoor
open Go.RowKit Go.Shelf
attribute [local go_sem] Oper.semAt_some

theorem One.of_block {w w1 : World} {b : Nat} {x : Value} (h : One w b x) (hb : w1.heap[b]? = w.heap[b]?) : One w1 b x :=
  ⟨(World.cell?_of_block (a := ⟨b, 0, none⟩) hb).trans h.c0, (World.frozen?_of_block (a := ⟨b, 0, none⟩) hb).trans h.z0⟩
def sumB (L : List Bd) : Int := (L.map Bd.s).sum
theorem sumB_snoc (L : List Bd) (x : Bd) : sumB (L ++ [x]) = sumB L + x.s := by simp [sumB]
theorem bdsT_mem {S : Set_} {ps : List Pl} (h : Va S ps) {x : Bd} (hx : x ∈ bdsT S ps (tcs ps ps.length)) : x.a < ps.length ∧ x.b < ps.length ∧ 0 ≤ x.s ∧ x.s ≤ 4 := by
  obtain ⟨t, ht, hx⟩ := List.mem_flatMap.1 hx
  obtain ⟨h1, h2, h3⟩ := tcs_mem ht
  unfold bdOf at hx
  split at hx
  · obtain rfl := List.mem_singleton.1 hx
    have := bondZ_in h.V (a := tlN ps t.a) (m := t.d.toNat) (b := tlN ps t.b) (o := (t.d.toNat + 2) % 4) (h.tl h1).2 (by omega)
    exact ⟨h1, h2, this⟩
  · cases hx
theorem sumB_in {L : List Bd} (h : ∀ x ∈ L, 0 ≤ x.s ∧ x.s ≤ 4) : 0 ≤ sumB L ∧ sumB L ≤ 4 * L.length := by
  induction L with
  | nil => simp [sumB]
  | cons x L ih =>
    have a := ih fun y hy => h y (List.mem_cons_of_mem _ hy)
    have b := h x (List.mem_cons_self ..)
    simp only [sumB, List.map_cons, List.sum_cons, List.length_cons] at a ⊢
    omega
theorem sumB_pre {S : Set_} {ps : List Pl} (h : Va S ps) {L : List Bd} (hL : L <+: bdsT S ps (tcs ps ps.length)) : 0 ≤ sumB L ∧ sumB L ≤ 4000 := by
  have a := sumB_in (L := L) fun x hx => (bdsT_mem h (hL.subset hx)).2.2
  have b := hL.length_le
  have c := bdsT_small (S := S) (List.prefix_refl (tcs ps ps.length)) h.F.len
  omega
theorem take_snoc {L : List Bd} {k : Nat} (h : k < L.length) : L.take (k + 1) = L.take k ++ [L.getD k default] := by
  rw [List.take_add_one]; simp [h]
open Classical in
/-- TotalStrength: the sum. -/
noncomputable def toR (S : Set_) (ps : List Pl) : Int := if vaB S ps = true then sumB (bdsT S ps (tcs ps ps.length)) else 0
theorem toR_yes {S : Set_} {ps : List Pl} (h : vaB S ps = true) : toR S ps = sumB (bdsT S ps (tcs ps ps.length)) := by unfold toR; rw [if_pos h]
theorem toR_no {S : Set_} {ps : List Pl} (h : vaB S ps = false) : toR S ps = 0 := by unfold toR; rw [if_neg (by rw [h]; simp)]

set_option maxRecDepth 100000 in
set_option maxHeartbeats 4000000 in
set_option linter.unusedSimpArgs false in
theorem specTotalStrength_law (vg1 vt1 : Value) (S1 : Set_) (v2 : Value) (P2 : List Pl) (w : World) (h1 : SetIn w vg1 vt1 S1) (_s1 : ∃ a k q, vg1 = .slice (some a) k q) (ok1 : S1.ok) (m1 : S1.small) (h2 : Plcs w v2 P2) (_s2 : ∃ a k q, v2 = .slice (some a) k q) (_o2 : ∀ p ∈ P2, p.ok) (_m2 : P2.length ≤ 1048576) :
    Calls Tryd.prog 18 #[.agg #[vg1, vt1], .agg #[v2]] w fun e w' => e = .returned (.tuple #[.int .i64 (toR S1 P2), .int .i64 (askC S1 P2)]) ∧ Below w.heap.size w w' := by
  have HS := Lib.hid h1
  have HV := Lib.hid h2
  have HB := Lib.hid (boxes_sa w vg1 vt1 v2 38 42)
  clear h1 h2
  go_enter Tryd.func18, Tryd.ntmps18
  go_wp2_with fail
  refine (l06Asked_any _ _ vg1 vt1 v2 S1 P2 _ HB.out.1 HB.out.2 (HS.out.below (by (repeat (first | exact Below.refl _ _ | refine Below.setCell ?_ (by first | (simp; done) | (simp; omega) | omega) _ | refine belowN ?_ _ | refine Below.drew ?_ | refine Below.alloc ?_ (by first | (simp; done) | (simp; omega) | omega) _ | refine Below.trans ?_ (Below.mono (by assumption) (by first | (simp; done) | (simp; omega) | omega)))))) ok1 m1 (HV.out.below (by (repeat (first | exact Below.refl _ _ | refine Below.setCell ?_ (by first | (simp; done) | (simp; omega) | omega) _ | refine belowN ?_ _ | refine Below.drew ?_ | refine Below.alloc ?_ (by first | (simp; done) | (simp; omega) | omega) _ | refine Below.trans ?_ (Below.mono (by assumption) (by first | (simp; done) | (simp; omega) | omega))))))).mono ?_
  rintro e w1 ⟨rfl, hb1⟩
  have B1 : Below w.heap.size w w1 := by (repeat (first | exact Below.refl _ _ | refine Below.setCell ?_ (by first | (simp; done) | (simp; omega) | omega) _ | refine belowN ?_ _ | refine Below.drew ?_ | refine Below.alloc ?_ (by first | (simp; done) | (simp; omega) | omega) _ | refine Below.trans ?_ (Below.mono (by assumption) (by first | (simp; done) | (simp; omega) | omega))))
  have z1 := B1.size
  have G1 := Lib.hid (HB.out.1.below hb1)
  have A1 := Lib.hid (HB.out.2.below hb1)
  clear hb1 HB
  cases hv : vaB S1 P2
  · have K := Lib.hid (toR_no hv)
    have K2 := Lib.hid (askC_no hv)
    rw [askC_no hv]
    go_wp2_with fail
    go_ret2
    exact ⟨ret_ii K.out.symm K2.out.symm, B1⟩
  have HVa := Lib.hid (vaB_va hv)
  have K := Lib.hid (toR_yes hv)
  have K2 := Lib.hid (askC_yes hv)
  rw [askC_yes hv]
  clear hv
  go_wp2_with fail
  refine (l06Bonds_any _ _ vg1 vt1 v2 S1 P2 _ G1.out A1.out (HS.out.below B1) m1 (HV.out.below B1) HVa.out).mono ?_
  rintro e w2 ⟨⟨v', rfl, ho⟩, hb2⟩
  have B2 : Below w.heap.size w w2 := B1.trans (hb2.mono z1)
  have HP := Lib.hid (fun (L : List Bd) (h : L <+: bdsT S1 P2 (tcs P2 P2.length)) => sumB_pre HVa.out h)
  have hLn := bdsT_small (S := S1) (List.prefix_refl (tcs P2 P2.length)) HVa.out.F.len
  have hcl : Cl w2 3 v' (bdsT S1 P2 (tcs P2 P2.length)).length (bC (bdsT S1 P2 (tcs P2 P2.length))) := OwnC.cl ho
  generalize bdsT S1 P2 (tcs P2 P2.length) = L at *
  obtain ⟨ao, cap, rfl, hl, hm, hc⟩ := hcl
  unfold maxLen at hm
  have H0 := Lib.hid hc
  clear hc ho hb2
  go_wp2_with fail
  go_loop [8, 9] (fun s i => ∃ k : Nat, k ≤ L.length ∧ i = .int .i64 k ∧ (∃ m : Int, m = sumB (L.take k) ∧ s = .int .i64 m)) (fun _ i => L.length - (intOf i).toNat)
  case atStart => exact ⟨0, by omega, rfl, 0, by simp [sumB], rfl⟩
  case round =>
    obtain ⟨k, hk, rfl, m, hm2, rfl⟩ := hrel
    have hin := HP.out (L.take k) (List.take_prefix _ _)
    rw [← hm2] at hin
    have HM := Lib.hid hm2
    clear hm2
    by_cases hlt : k < L.length
    · obtain ⟨b, off, rfl, H1⟩ := H0.out (by omega)
      have c2 := H1 k 2 hlt (by omega)
      have hx : bC L k 2 = (L.getD k default).s := rfl
      have hin2 := HP.out (L.take (k + 1)) (List.take_prefix _ _)
      rw [take_snoc hlt, sumB_snoc, ← HM.out] at hin2
      rw [hx] at c2
      have HS2 := Lib.hid (show sumB (L.take (k + 1)) = m + (L.getD k default).s by rw [take_snoc hlt, sumB_snoc, ← HM.out])
      generalize (L.getD k default).s = z at *
      clear H1 hx
      go_wp2_with fail
      go_round
      case rel => exact ⟨k + 1, by omega, by go_num, m + z, HS2.out.symm, by first | rfl | exact congrArg (Value.int .i64) (IntWalk.i64_in _ (by omega))⟩
      case measure => simp [intOf]; omega
    · obtain rfl : k = L.length := by omega
      go_wp2_with fail
      go_ret2
      exact ⟨ret_ii (by rw [K.out, HM.out, List.take_length]) K2.out.symm, B2⟩

set_option maxRecDepth 100000 in
set_option maxHeartbeats 8000000 in
set_option linter.unusedSimpArgs false in
theorem implTotalStrength_law (vg1 vt1 : Value) (S1 : Set_) (v2 : Value) (P2 : List Pl) (w : World) (h1 : SetIn w vg1 vt1 S1) (s1 : ∃ a k q, vg1 = .slice (some a) k q) (ok1 : S1.ok) (m1 : S1.small) (h2 : Plcs w v2 P2) (s2 : ∃ a k q, v2 = .slice (some a) k q) (o2 : ∀ p ∈ P2, p.ok) (m2 : P2.length ≤ 1048576) (hT : Steps w) :
    Calls Tryd.prog 19 #[.agg #[vg1, vt1], .agg #[v2]] w fun e w' => e = .returned (.tuple #[.int .i64 (toR S1 P2), .int .i64 (askC S1 P2)]) ∧ Below w.heap.size w w' := by
  have HS := Lib.hid h1
  have HV := Lib.hid h2
  have HT := Lib.hid hT
  have HB := Lib.hid (boxes_sa w vg1 vt1 v2 38 42)
  clear h1 h2 hT
  have hV := implValidAssembly_law vg1 vt1 S1 v2 P2 ((w.alloc (.cells #[vg1, vt1] 38)).alloc (.cells #[v2] 42)) (HS.out.below (by (repeat (first | exact Below.refl _ _ | refine Below.setCell ?_ (by first | (simp; done) | (simp; omega) | omega) _ | refine belowN ?_ _ | refine Below.drew ?_ | refine Below.alloc ?_ (by first | (simp; done) | (simp; omega) | omega) _ | refine Below.trans ?_ (Below.mono (by assumption) (by first | (simp; done) | (simp; omega) | omega)))))) s1 ok1 m1 (HV.out.below (by (repeat (first | exact Below.refl _ _ | refine Below.setCell ?_ (by first | (simp; done) | (simp; omega) | omega) _ | refine belowN ?_ _ | refine Below.drew ?_ | refine Below.alloc ?_ (by first | (simp; done) | (simp; omega) | omega) _ | refine Below.trans ?_ (Below.mono (by assumption) (by first | (simp; done) | (simp; omega) | omega)))))) s2 o2 m2
  obtain ⟨b0, b1⟩ := HB.out.1
  obtain ⟨b2⟩ := HB.out.2
  rw [← callsIn_wide (n := 9)]
  refine callsIn_of_wp_marks Tryd.func19 rfl trivial ?_ rfl
  simp only [Tryd.ntmps19, List.size_toArray, List.length_cons, List.length_nil, Nat.reduceAdd, Nat.reduceSub, Array.replicate_succ, Array.replicate_zero, List.push_toArray, List.append_toArray, List.nil_append, List.cons_append]
  gi_wp2_with fail
  refine ⟨trivial, (callsIn_wide.2 hV).mono ?_⟩
  rintro e w1 ⟨rfl, hb1⟩
  have B1 : Below w.heap.size w w1 := by (repeat (first | exact Below.refl _ _ | refine Below.setCell ?_ (by first | (simp; done) | (simp; omega) | omega) _ | refine belowN ?_ _ | refine Below.drew ?_ | refine Below.alloc ?_ (by first | (simp; done) | (simp; omega) | omega) _ | refine Below.trans ?_ (Below.mono (by assumption) (by first | (simp; done) | (simp; omega) | omega))))
  have z1 := B1.size
  have G1 := Lib.hid (HB.out.1.below hb1)
  have A1 := Lib.hid (HB.out.2.below hb1)
  have l1 := A1.out.lt
  clear hb1 HB b0 b1 b2 hV
  cases hv : vaB S1 P2
  · have K := Lib.hid (toR_no hv)
    have K2 := Lib.hid (askC_no hv)
    gi_wp2
    refine ⟨_, results_tmp2 rfl _ _ _, ?_, B1⟩
    rw [K.out, K2.out]; rfl
  have HVa := Lib.hid (vaB_va hv)
  have K := Lib.hid (toR_yes hv)
  have K2 := Lib.hid (askC_yes hv)
  have HPre := Lib.hid (fun (L : List Bd) (h : L <+: bdsT S1 P2 (tcs P2 P2.length)) => sumB_pre HVa.out h)
  clear hv
  obtain ⟨g0, g1⟩ := G1.out.below (w1 := w1.alloc (.cells #[.int .i64 0] 2)) (by (repeat (first | exact Below.refl _ _ | refine Below.setCell ?_ (by first | (simp; done) | (simp; omega) | omega) _ | refine belowN ?_ _ | refine Below.drew ?_ | refine Below.alloc ?_ (by first | (simp; done) | (simp; omega) | omega) _ | refine Below.trans ?_ (Below.mono (by assumption) (by first | (simp; done) | (simp; omega) | omega)))))
  obtain ⟨a0⟩ := A1.out.below (w1 := w1.alloc (.cells #[.int .i64 0] 2)) (by (repeat (first | exact Below.refl _ _ | refine Below.setCell ?_ (by first | (simp; done) | (simp; omega) | omega) _ | refine belowN ?_ _ | refine Below.drew ?_ | refine Below.alloc ?_ (by first | (simp; done) | (simp; omega) | omega) _ | refine Below.trans ?_ (Below.mono (by assumption) (by first | (simp; done) | (simp; omega) | omega)))))
  gi_wp2_with fail
  refine ⟨trivial, (callsIn_wide.2 (bonds_any _ _ _ _)).mono ?_⟩
  rintro e w2 ⟨rfl, rfl⟩
  obtain ⟨W, hW⟩ : ∃ W, W = ((w1.alloc (.cells #[.int .i64 0] 2)).alloc (.cells #[vg1, vt1] 38)).alloc (.cells #[v2] 42) := ⟨_, rfl⟩
  have zW : W.heap.size = w1.heap.size + 3 := by rw [hW]; simp
  have bW : Below w1.heap.size w1 W := by rw [hW]; exact (((Below.refl _ w1).alloc (Nat.le_refl _) _).alloc (by simp) _).alloc (by simp; omega) _
  have BW : Below w.heap.size w W := B1.trans (bW.mono z1)
  have SB : One W w1.heap.size (.int .i64 0) := by rw [hW]; exact ⟨by simp [go_sem], by simp [go_sem]⟩
  have GB : At W (w1.heap.size + 1) vg1 vt1 := by rw [hW]; exact ⟨by simp [go_sem], by simp [go_sem]⟩
  have AB : At1 W (w1.heap.size + 1 + 1) v2 := by rw [hW]; exact ⟨by simp [go_sem]⟩
  clear g0 g1 a0
  gi_wp2
  rw [← hW]
  clear hW
  generalize w1.heap.size = sb at *
  refine wpIn_give_box (xs := bdsT S1 P2 (tcs P2 P2.length)) (N := fun k => k < W.heap.size ∧ k ≠ sb) (encs := encB) rfl (enters_of Tryd.func87 (by kernel_rfl) rfl)
    (bonds_gives w (sb + 1) (sb + 1 + 1) vg1 vt1 v2 S1 P2 _ W BW (fun k h => ⟨by omega, by omega⟩) ⟨by omega, by omega⟩ ⟨by omega, by omega⟩ (fun k h => h.1) GB AB HS.out m1 HV.out HVa.out HT.out) (Below.refl _ _) (fun k h => h.1) (fun _ => rfl)
    (fun pre C W' => (∃ m : Int, m = sumB pre ∧ One W' sb (.int .i64 m)) ∧ Below w.heap.size w W') ?abide (fun _ => False) (fun k h => h.elim) ⟨⟨0, rfl, SB⟩, BW⟩
    (fun x Bx W' => Thr W' Bx (.int .i64 (x.a : Int)) (.int .i64 (x.b : Int)) (.int .i64 x.s) ∧ sb ≠ Bx) (fun x Bx s X Y row h hg hr => ⟨thr_own Bx _ _ _ () X Y row h.1 hg hr, h.2⟩) ?actF ?assign ?body ?done
  case abide =>
    rintro pre C A B ⟨⟨m, h1, h2⟩, h3⟩ hs
    exact ⟨⟨m, h1, h2.of_block (hs.block _ h2.lt (.inl (by omega)))⟩, h3.trans (hs.below (by omega) h3.size)⟩
  case assign =>
    rintro l2 pre C x W' K hi hK
    dsimp only [encB]
    gi_wp2
    have hsb := hi.1
    have hT3 : Thr (W'.alloc (.cells #[.int .i64 (x.a : Int), .int .i64 (x.b : Int), .int .i64 x.s] 86)) W'.heap.size (.int .i64 (x.a : Int)) (.int .i64 (x.b : Int)) (.int .i64 x.s) := ⟨by simp [go_sem], by simp [go_sem], by simp [go_sem]⟩
    have hb3 : Below W'.heap.size W' (W'.alloc (.cells #[.int .i64 (x.a : Int), .int .i64 (x.b : Int), .int .i64 x.s] 86)) := (Below.refl _ W').alloc (Nat.le_refl _) _
    generalize W'.alloc (.cells #[.int .i64 (x.a : Int), .int .i64 (x.b : Int), .int .i64 x.s] 86) = W3 at *
    revert hT3 hb3
    obtain ⟨m, -, hone⟩ := hsb
    have hlt := hone.lt
    generalize hz : W'.heap.size = Bx
    intro hT3 hb3
    exact hK Bx _ (by rw [hz]; exact hb3) ⟨hT3, by omega⟩
  case body =>
    rintro l2 pre C x Bx W' hzW hC ⟨⟨m, hm, hone⟩, hb⟩ ⟨hX, hne⟩ hpre
    have hin := HPre.out _ ((List.prefix_append _ _).trans hpre)
    have hin2 := HPre.out _ hpre
    rw [sumB_snoc, ← hm] at hin2
    rw [← hm] at hin
    obtain ⟨o0, oz⟩ := id hone
    obtain ⟨x0, x1, x2⟩ := id hX
    have lo := hone.lt
    have lX := hX.lt
    have HM := Lib.hid hm
    have sB := hb.size
    have hwr : IntKind.i64.wrap (m + x.s) = m + x.s := IntWalk.i64_in _ (by omega)
    clear hm
    gi_wp2
    exact ⟨⟨⟨World.cell?_setCell_same _ _ _ o0 |>.trans (by rw [sumB_snoc, ← HM.out]), by rw [World.frozen?_setCell]; exact oz⟩, hb.setCell (p := ⟨sb, 0, none⟩) (by dsimp only; omega) _⟩, ⟨fun _ => False, fun _ h => h.elim⟩, Spare.set (by simp) (.inl (by dsimp only; omega)) _⟩
  case done =>
    rintro C W3 hzW ⟨⟨m, hm, hone⟩, hb⟩ nD hK
    obtain ⟨o0, oz⟩ := id hone
    gi_wp2
    refine ⟨by simp, .inl ⟨_, _, rfl, run_takeDeferred hK, ?_⟩⟩
    refine ⟨_, results_tmp2 rfl _ _ _, ?_, hb.trans ((Below.refl _ W3).grown (grownBy_putObj' W3 _ _) hb.size (fun k e => by cases e; omega))⟩
    rw [K.out, K2.out]; rfl
end Go.Proofs.YtnofbeeihdgmdaaDoor
