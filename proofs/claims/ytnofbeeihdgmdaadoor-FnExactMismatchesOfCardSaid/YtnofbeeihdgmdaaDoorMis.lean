/-
  The tiles next to each other that do not fit: the program's iterator gives them. Conditions: each theorem's own; it reads the listed table of steps.
-/
import Derived.Test.YtnofbeeihdgmdaaDoorBds
namespace Go.Proofs.YtnofbeeihdgmdaaDoor
open Go.RowKit Go.Shelf
attribute [local go_sem] Oper.semAt_some

/-- Do the sides that touch differ? -/
def misB (S : Set_) (ps : List Pl) (t : Tc) : Bool := !decide (sideZ S (tlN ps t.a) t.d.toNat = sideZ S (tlN ps t.b) ((t.d.toNat + 2) % 4))
def misOf (S : Set_) (ps : List Pl) (t : Tc) : List Bd := if misB S ps t = true then [⟨t.a, t.b, 0⟩] else []
theorem misOf_yes {S : Set_} {ps : List Pl} {t : Tc} (h : misB S ps t = true) : misOf S ps t = [⟨t.a, t.b, 0⟩] := by unfold misOf; rw [if_pos h]
theorem misOf_no {S : Set_} {ps : List Pl} {t : Tc} (h : misB S ps t = false) : misOf S ps t = [] := by unfold misOf; rw [if_neg (by rw [h]; simp)]
def misT (S : Set_) (ps : List Pl) (ts : List Tc) : List Bd := ts.flatMap (misOf S ps)
theorem misT_snoc (S : Set_) (ps : List Pl) (ts : List Tc) (t : Tc) : misT S ps (ts ++ [t]) = misT S ps ts ++ misOf S ps t := by simp [misT]
theorem misT_pre {S : Set_} {ps : List Pl} {ts us : List Tc} (h : ts <+: us) : misT S ps ts <+: misT S ps us := by
  obtain ⟨r, rfl⟩ := h
  exact ⟨misT S ps r, by simp [misT]⟩
theorem misses_any (vg vt v : Value) (w : World) : Calls Tryd.prog 62 #[.agg #[vg, vt], .agg #[v]] w fun e w' => e = .returned (.func (.func 92) #[] #[.pointer (some ⟨w.heap.size + 1, 0, none⟩), .pointer (some ⟨w.heap.size, 0, none⟩)]) ∧ (w.alloc (.cells #[vg, vt] 38)).alloc (.cells #[v] 42) = w' := by
  go_enter Tryd.func62, Tryd.ntmps62
  go_wp2
  go_ret
  exact ⟨rfl, rfl⟩

set_option maxRecDepth 100000 in
set_option maxHeartbeats 8000000 in
set_option linter.unusedSimpArgs false in
theorem misses_gives (w0 : World) (bs ba : Nat) (vg vt v : Value) (S : Set_) (ps : List Pl) (N : Nat → Prop) (w : World) (hb0 : Below w0.heap.size w0 w) (hN : ∀ k, k < w0.heap.size → N k) (hNs : N bs) (hNa : N ba) (hNw : ∀ k, N k → k < w.heap.size)
    (hs : At w bs vg vt) (ha : At1 w ba v) (hS : SetIn w0 vg vt S) (_sm : S.small) (hv : Plcs w0 v ps) (hva : Va S ps) (hT : Steps w0) :
    Gives Tryd.prog 92 #[.pointer (some ⟨ba, 0, none⟩), .pointer (some ⟨bs, 0, none⟩)] encB N (misT S ps (tcs ps ps.length)) w := by
  intro l J C0 W hW hC0 hJ hY hJ0
  have HV := Lib.hid hv
  have HS := Lib.hid hS
  have HVA := Lib.hid hva
  have b0W : Below w0.heap.size w0 W := hb0.trans (hW.mono hb0.size)
  have s0W := b0W.size
  have sW := hW.size
  have A0 := Lib.hid (ha.below hW)
  have S0 := Lib.hid (hs.below hW)
  have lba := A0.out.lt
  have lbs := S0.out.lt
  obtain ⟨ao, cap, rfl, hl, hm, hc⟩ := hv.open_
  unfold maxLen at hm
  have H0 := Lib.hid hc
  have h500 := hva.F.len
  clear hv hc hS hs ha
  have a0 := akeep (o := .cells #[.func (.yield l) #[] #[]] 129) A0.out.c0
  rw [← callsIn_wide (n := 9)]
  refine callsIn_of_wp_marks Tryd.func92 rfl trivial ?_ rfl
  simp only [Tryd.ntmps92, List.size_toArray, List.length_cons, List.length_nil, Nat.reduceAdd, Nat.reduceSub, Array.replicate_succ, Array.replicate_zero, List.push_toArray, List.append_toArray, List.nil_append, List.cons_append]
  gi_wp2_with (refine ⟨trivial, ?_⟩; gi_at_call 88; refine (callsIn_wide.2 (touches_any _ _)).mono ?_; rintro e w1 ⟨rfl, rfl⟩)
  obtain ⟨W2, hW2⟩ : ∃ W2, W2 = (W.alloc (.cells #[.func (.yield l) #[] #[]] 129)).alloc (.cells #[.slice ao ps.length cap] 42) := ⟨_, rfl⟩
  have z2 : W2.heap.size = W.heap.size + 2 := by rw [hW2]; simp
  have b2 : Below W.heap.size W W2 := by rw [hW2]; exact ((Below.refl _ W).alloc (Nat.le_refl _) _).alloc (by simp) _
  have Y2 : At1 W2 W.heap.size (.func (.yield l) #[] #[]) := by rw [hW2]; exact ⟨by simp [go_sem]⟩
  have X2 : At1 W2 (W.heap.size + 1) (.slice ao ps.length cap) := by rw [hW2]; exact ⟨by simp [go_sem]⟩
  have nq : ¬ C0 W.heap.size := fun h => by have := hC0 _ h; omega
  rw [← hW2]
  clear a0 hW2
  refine wpIn_give_box (xs := tcs ps ps.length) (N := N) (encs := encT) rfl (enters_of Tryd.func113 (by kernel_rfl) rfl)
    (touches_gives w0 (W.heap.size + 1) (.slice ao ps.length cap) ps N W2 (b0W.trans (b2.mono s0W)) hN X2 HV.out HVA.out.F hT) (Below.refl _ _) (fun k h => by have := hNw k h; omega) (fun _ => rfl)
    (fun pre C W' => J (misT S ps pre) C W' ∧ ¬ C W.heap.size ∧ At1 W' W.heap.size (.func (.yield l) #[] #[]) ∧ At W' bs vg vt ∧ At1 W' ba (.slice ao ps.length cap) ∧ Below w0.heap.size w0 W' ∧ W2.heap.size ≤ W'.heap.size)
    ?abide C0 (fun k h => by have := hC0 k h; omega) ⟨hJ _ _ _ _ hJ0 (Aside.of b2), nq, Y2, S0.out.below b2, A0.out.below b2, b0W.trans (b2.mono s0W), Nat.le_refl _⟩
    (fun x Bx W' => Thr W' Bx (.int .i64 (x.a : Int)) (.int .i64 x.d) (.int .i64 (x.b : Int))) (fun x Bx => thr_own Bx _ _ _) ?actF ?assign ?body ?done
  case abide =>
    rintro pre C A B ⟨h1, h2, h3, h4, h5, h6, h7⟩ hs
    exact ⟨hJ _ _ _ _ h1 (hs.mono (by omega)), h2, h3.of_block (hs.block _ (by omega) (.inl (by omega))), h4.of_block (hs.block _ (by omega) (.inl (by omega))), h5.of_block (hs.block _ (by omega) (.inl (by omega))),
      h6.trans (hs.below (by omega) (by omega)), Nat.le_trans h7 hs.size⟩
  case assign =>
    rintro l2 pre C x W' K hi hK
    dsimp only [encT]
    gi_wp2
    have hT3 : Thr (W'.alloc (.cells #[.int .i64 (x.a : Int), .int .i64 x.d, .int .i64 (x.b : Int)] 134)) W'.heap.size (.int .i64 (x.a : Int)) (.int .i64 x.d) (.int .i64 (x.b : Int)) := ⟨by simp [go_sem], by simp [go_sem], by simp [go_sem]⟩
    have hb3 : Below W'.heap.size W' (W'.alloc (.cells #[.int .i64 (x.a : Int), .int .i64 x.d, .int .i64 (x.b : Int)] 134)) := (Below.refl _ W').alloc (Nat.le_refl _) _
    generalize W'.alloc (.cells #[.int .i64 (x.a : Int), .int .i64 x.d, .int .i64 (x.b : Int)] 134) = W3 at *
    revert hT3 hb3
    generalize hz : W'.heap.size = Bx
    intro hT3 hb3
    exact hK Bx _ (by rw [hz]; exact hb3) hT3
  case body =>
    rintro l2 pre C x Bx W' hzW hC ⟨hJ1, nq1, hY1, hS1, hA1, hb1, hs1⟩ hX1 hpre
    obtain ⟨hma, hmb, hmd⟩ := tcs_mem (mem_of_pre hpre)
    obtain ⟨b, off, rfl, H1⟩ := H0.out (by omega)
    obtain ⟨m, hme⟩ : ∃ m : Nat, x.d = (m : Int) := ⟨x.d.toNat, by omega⟩
    have hm4 : m < 4 := by omega
    obtain ⟨hta, htal⟩ := HVA.out.tl hma
    obtain ⟨htb, htbl⟩ := HVA.out.tl hmb
    have ca := cell_below hb1 (H1 x.a hma).2.2
    have cb := cell_below hb1 (H1 x.b hmb).2.2
    rw [hta] at ca
    rw [htb] at cb
    rw [hme] at hX1
    obtain ⟨x0, x1, x2⟩ := id hX1
    obtain ⟨g0, g1⟩ := id hS1
    obtain ⟨e0⟩ := id hA1
    obtain ⟨y0⟩ := id hY1
    have lX := hX1.lt
    have lY := hY1.lt
    have lS := hS1.lt
    have hia : (x.a : Int) < ps.length := by omega
    have hib : (x.b : Int) < ps.length := by omega
    have s01 := hb1.size
    have hxa : 4 ≤ 4 := Nat.le_refl _
    have H4a := Lib.hid (HVA.out.V.sides htal)
    have H4b := Lib.hid (HVA.out.V.sides htbl)
    have ho4 : (m + 2) % 4 < 4 := Nat.mod_lt _ (by omega)
    have hme2 : x.d.toNat = m := by rw [hme]; exact Int.toNat_natCast m
    have HX := Lib.hid hX1
    have HYB := Lib.hid hY1
    have HSB := Lib.hid hS1
    have HAB := Lib.hid hA1
    have HME2 := Lib.hid hme2
    clear hta htb hme hX1 hY1 hS1 hA1 H1 hmd hxa hme2
    gi_wp2
    refine wpIn_region_round (S := (fun w' => w'.cell? ⟨bs, 0, none⟩ = some vg ∧ w'.cell? ⟨bs, 1, none⟩ = some vt ∧ w'.cell? ⟨ba, 0, none⟩ = some (.slice (some ⟨b, off, none⟩) ps.length cap) ∧ w'.cell? ⟨Bx, 0, none⟩ = some (.int .i64 (x.a : Int)) ∧ w'.cell? ⟨Bx, 1, none⟩ = some (.int .i64 (m : Int)) ∧ w'.cell? ⟨b, off + x.a * 3 + 2, none⟩ = some (.int .i64 (tlN ps x.a : Int)))) (by kernel_rfl) (by kernel_rfl) ?_ (fun hHeld => ?_)
    · (try dsimp only)
      (((try go_split_ands); (try dsimp only); (repeat' apply And.intro)) <;> (repeat (first | with_reducible assumption | ((with_reducible refine cnew0 ?_); simp; done) | ((with_reducible refine cnew1 ?_); simp; done) | (with_reducible refine akeep ?_) | (with_reducible refine dkeep ?_) | ((with_reducible refine skeep ?_ ?_); rotate_left; (first | ((try dsimp only); omega) | (simp; done) | (simp; omega))) | (with_reducible refine bkeep hb3 ?_))))
    refine wpAnyH_take (i := 0) (oi := ⟨_, _, _, _, _, _⟩) (v := ?_) rfl (by kernel_rfl) (by kernel_rfl) (by kernel_rfl) (fun _ _ _ h => h) (Or.inl ⟨by rfl, ?_⟩) (by assumption) ?_
    rotate_left
    · (intro w hSw; (try dsimp only at hSw); go_simp; (try with_reducible rfl))
    (try simp only [Act.put, List.setIfInBounds_toArray, List.set_cons_zero, List.set_cons_succ])
    refine wpAnyH_take (i := 1) (oi := ⟨_, _, _, _, _, _⟩) (v := ?_) rfl (by kernel_rfl) (by kernel_rfl) (by kernel_rfl) (fun _ _ _ h => h) (Or.inl ⟨by rfl, ?_⟩) (by assumption) ?_
    rotate_left
    · (intro w hSw; (try dsimp only at hSw); go_simp; (try with_reducible rfl))
    (try simp only [Act.put, List.setIfInBounds_toArray, List.set_cons_zero, List.set_cons_succ])
    refine wpAnyH_take (i := 2) (oi := ⟨_, _, _, _, _, _⟩) (v := ?_) rfl (by kernel_rfl) (by kernel_rfl) (by kernel_rfl) (fun _ _ _ h => h) (Or.inl ⟨by rfl, ?_⟩) (by assumption) ?_
    rotate_left
    · (intro w hSw; (try dsimp only at hSw); go_simp; (try with_reducible rfl))
    (try simp only [Act.put, List.setIfInBounds_toArray, List.set_cons_zero, List.set_cons_succ])
    refine wpAnyH_take (i := 3) (oi := ⟨_, _, _, _, _, _⟩) (v := ?_) rfl (by kernel_rfl) (by kernel_rfl) (by kernel_rfl) (fun _ _ _ h => h) (Or.inl ⟨by rfl, ?_⟩) (by assumption) ?_
    rotate_left
    · (intro w hSw; (try dsimp only at hSw); go_simp; (try with_reducible rfl))
    (try simp only [Act.put, List.setIfInBounds_toArray, List.set_cons_zero, List.set_cons_succ])
    refine wpAnyH_take (i := 4) (oi := ⟨_, _, _, _, _, _⟩) (v := ?_) rfl (by kernel_rfl) (by kernel_rfl) (by kernel_rfl) (fun _ _ _ h => h) (Or.inl ⟨by rfl, ?_⟩) (by assumption) ?_
    rotate_left
    · (intro w hSw; (try dsimp only at hSw); go_simp; (try with_reducible rfl))
    (try simp only [Act.put, List.setIfInBounds_toArray, List.set_cons_zero, List.set_cons_succ])
    refine wpAnyH_take (i := 5) (oi := ⟨_, _, _, _, _, _⟩) (v := ?_) rfl (by kernel_rfl) (by kernel_rfl) (by kernel_rfl) (fun _ _ _ h => h) (Or.inl ⟨by rfl, ?_⟩) (by assumption) ?_
    rotate_left
    · (intro w hSw; (try dsimp only at hSw); go_simp; (try with_reducible rfl))
    (try simp only [Act.put, List.setIfInBounds_toArray, List.set_cons_zero, List.set_cons_succ])
    refine wpAnyH_take (i := 6) (oi := ⟨_, _, _, _, _, _⟩) (v := ?_) rfl (by kernel_rfl) (by kernel_rfl) (by kernel_rfl) (fun _ _ _ h => h) (Or.inl ⟨by rfl, ?_⟩) (by assumption) ?_
    rotate_left
    · (intro w hSw; (try dsimp only at hSw); go_simp; (try with_reducible rfl))
    (try simp only [Act.put, List.setIfInBounds_toArray, List.set_cons_zero, List.set_cons_succ])
    refine wpAnyH_take (i := 7) (oi := ⟨_, _, _, _, _, _⟩) (v := ?_) rfl (by kernel_rfl) (by kernel_rfl) (by kernel_rfl) (fun _ _ _ h => h) (Or.inl ⟨by rfl, ?_⟩) (by assumption) ?_
    rotate_left
    · (intro w hSw; (try dsimp only at hSw); go_simp; (try with_reducible rfl))
    (try simp only [Act.put, List.setIfInBounds_toArray, List.set_cons_zero, List.set_cons_succ])
    refine wpAnyH_take (i := 8) (oi := ⟨_, _, _, _, _, _⟩) (v := ?_) rfl (by kernel_rfl) (by kernel_rfl) (by kernel_rfl) (fun _ _ _ h => h) (Or.inl ⟨by rfl, ?_⟩) (by assumption) ?_
    rotate_left
    · (intro w hSw; (try dsimp only at hSw); go_simp; (try with_reducible rfl))
    (try simp only [Act.put, List.setIfInBounds_toArray, List.set_cons_zero, List.set_cons_succ])
    refine wpAnyH_take (i := 9) (oi := ⟨_, _, _, _, _, _⟩) (v := ?_) rfl (by kernel_rfl) (by kernel_rfl) (by kernel_rfl) (fun _ _ _ h => h) (Or.inl ⟨by rfl, ?_⟩) (by assumption) ?_
    rotate_left
    · (intro w hSw; (try dsimp only at hSw); go_simp; (try with_reducible rfl))
    (try simp only [Act.put, List.setIfInBounds_toArray, List.set_cons_zero, List.set_cons_succ])
    refine wpAnyH_ready (rs := [10]) (by kernel_rfl) (by simp) ?_
    refine AllReadyH.cons (o := ⟨_, _, _, _, _, _⟩) rfl (fun K hK => ?_) AllReadyH.nil
    go_simp
    (go_at_call 93; refine (glueAt_any vg vt S (tlN ps x.a) m _ (HS.out.below (show Below w0.heap.size w0 _ by (repeat (first | exact Below.refl _ _ | refine Below.setCell ?_ (by first | (simp; done) | (simp; omega) | omega) _ | refine belowN ?_ _ | refine Below.drew ?_ | refine Below.alloc ?_ (by first | (simp; done) | (simp; omega) | omega) _ | refine Below.trans ?_ (Below.mono (by assumption) (by first | (simp; done) | (simp; omega) | omega)))))).t htal hm4 H4a.out).mono ?_; rintro e w3 ⟨rfl, hb3⟩)
    refine hK.out _ _ ?_ (fun hHeld => ?_)
    · (try dsimp only)
      (((try go_split_ands); (try dsimp only); (repeat' apply And.intro)) <;> (repeat (first | with_reducible assumption | ((with_reducible refine cnew0 ?_); simp; done) | ((with_reducible refine cnew1 ?_); simp; done) | (with_reducible refine akeep ?_) | (with_reducible refine dkeep ?_) | ((with_reducible refine skeep ?_ ?_); rotate_left; (first | ((try dsimp only); omega) | (simp; done) | (simp; omega))) | (with_reducible refine bkeep hb3 ?_))))
    clear hK K
    (try simp only [Act.put, List.setIfInBounds_toArray, List.set_cons_zero, List.set_cons_succ])
    refine wpAnyH_take (i := 11) (oi := ⟨_, _, _, _, _, _⟩) (v := ?_) rfl (by kernel_rfl) (by kernel_rfl) (by kernel_rfl) (fun _ _ _ h => h) (Or.inl ⟨by rfl, ?_⟩) (by assumption) ?_
    rotate_left
    · (intro w hSw; (try dsimp only at hSw); go_simp; (try with_reducible rfl))
    (try simp only [Act.put, List.setIfInBounds_toArray, List.set_cons_zero, List.set_cons_succ])
    refine wpAnyH_done (by kernel_rfl) ?_ _
    dsimp only [onlyN]
    have B3 : Below W'.heap.size W' w3 := by (repeat (first | exact Below.refl _ _ | refine Below.setCell ?_ (by first | (simp; done) | (simp; omega) | omega) _ | refine belowN ?_ _ | refine Below.drew ?_ | refine Below.alloc ?_ (by first | (simp; done) | (simp; omega) | omega) _ | refine Below.trans ?_ (Below.mono (by assumption) (by first | (simp; done) | (simp; omega) | omega))))
    have z3 := B3.size
    have b03 : Below w0.heap.size w0 w3 := hb1.trans (B3.mono s01)
    have X3 := HX.out.below B3
    have Y3 := HYB.out.below B3
    have S3 := HSB.out.below B3
    have A3 := HAB.out.below B3
    have cb3 := cell_below B3 cb
    obtain ⟨u0, u1, u2⟩ := id X3
    obtain ⟨k0, k1⟩ := id S3
    obtain ⟨f0⟩ := id A3
    have HX3 := Lib.hid X3
    have HY3 := Lib.hid Y3
    have HS3 := Lib.hid S3
    have HA3 := Lib.hid A3
    clear x0 x1 x2 g0 g1 e0 y0 ca cb hHeld hb3 X3 Y3 S3 A3
    obtain ⟨p, hp⟩ : ∃ p, sideZ S (tlN ps x.a) m = p := ⟨_, rfl⟩
    obtain ⟨q, hq⟩ : ∃ q, sideZ S (tlN ps x.b) ((m + 2) % 4) = q := ⟨_, rfl⟩
    have HPQ : Hid (misB S ps x = !decide (p = q)) := Lib.hid (by unfold misB; rw [HME2.out, hp, hq])
    have HQ2 := Lib.hid hq
    rw [hp]
    clear hp hq
    gi_wp2
    refine wpIn_region_round (S := (fun w' => w'.cell? ⟨bs, 0, none⟩ = some vg ∧ w'.cell? ⟨bs, 1, none⟩ = some vt ∧ w'.cell? ⟨ba, 0, none⟩ = some (.slice (some ⟨b, off, none⟩) ps.length cap) ∧ w'.cell? ⟨Bx, 1, none⟩ = some (.int .i64 (m : Int)) ∧ w'.cell? ⟨Bx, 2, none⟩ = some (.int .i64 (x.b : Int)) ∧ w'.cell? ⟨b, off + x.b * 3 + 2, none⟩ = some (.int .i64 (tlN ps x.b : Int)))) (by kernel_rfl) (by kernel_rfl) ?_ (fun hHeld => ?_)
    · (try dsimp only)
      (((try go_split_ands); (try dsimp only); (repeat' apply And.intro)) <;> (repeat (first | with_reducible assumption | ((with_reducible refine cnew0 ?_); simp; done) | ((with_reducible refine cnew1 ?_); simp; done) | (with_reducible refine akeep ?_) | (with_reducible refine dkeep ?_) | ((with_reducible refine skeep ?_ ?_); rotate_left; (first | ((try dsimp only); omega) | (simp; done) | (simp; omega))) | (with_reducible refine bkeep hb3 ?_))))
    refine wpAnyH_take (i := 0) (oi := ⟨_, _, _, _, _, _⟩) (v := ?_) rfl (by kernel_rfl) (by kernel_rfl) (by kernel_rfl) (fun _ _ _ h => h) (Or.inl ⟨by rfl, ?_⟩) (by assumption) ?_
    rotate_left
    · (intro w hSw; (try dsimp only at hSw); go_simp; (try with_reducible rfl))
    (try simp only [Act.put, List.setIfInBounds_toArray, List.set_cons_zero, List.set_cons_succ])
    refine wpAnyH_take (i := 1) (oi := ⟨_, _, _, _, _, _⟩) (v := ?_) rfl (by kernel_rfl) (by kernel_rfl) (by kernel_rfl) (fun _ _ _ h => h) (Or.inl ⟨by rfl, ?_⟩) (by assumption) ?_
    rotate_left
    · (intro w hSw; (try dsimp only at hSw); go_simp; (try with_reducible rfl))
    (try simp only [Act.put, List.setIfInBounds_toArray, List.set_cons_zero, List.set_cons_succ])
    refine wpAnyH_take (i := 2) (oi := ⟨_, _, _, _, _, _⟩) (v := ?_) rfl (by kernel_rfl) (by kernel_rfl) (by kernel_rfl) (fun _ _ _ h => h) (Or.inl ⟨by rfl, ?_⟩) (by assumption) ?_
    rotate_left
    · (intro w hSw; (try dsimp only at hSw); go_simp; (try with_reducible rfl))
    (try simp only [Act.put, List.setIfInBounds_toArray, List.set_cons_zero, List.set_cons_succ])
    refine wpAnyH_take (i := 3) (oi := ⟨_, _, _, _, _, _⟩) (v := ?_) rfl (by kernel_rfl) (by kernel_rfl) (by kernel_rfl) (fun _ _ _ h => h) (Or.inl ⟨by rfl, ?_⟩) (by assumption) ?_
    rotate_left
    · (intro w hSw; (try dsimp only at hSw); go_simp; (try with_reducible rfl))
    (try simp only [Act.put, List.setIfInBounds_toArray, List.set_cons_zero, List.set_cons_succ])
    refine wpAnyH_take (i := 4) (oi := ⟨_, _, _, _, _, _⟩) (v := ?_) rfl (by kernel_rfl) (by kernel_rfl) (by kernel_rfl) (fun _ _ _ h => h) (Or.inl ⟨by rfl, ?_⟩) (by assumption) ?_
    rotate_left
    · (intro w hSw; (try dsimp only at hSw); go_simp; (try with_reducible rfl))
    (try simp only [Act.put, List.setIfInBounds_toArray, List.set_cons_zero, List.set_cons_succ])
    refine wpAnyH_take (i := 5) (oi := ⟨_, _, _, _, _, _⟩) (v := ?_) rfl (by kernel_rfl) (by kernel_rfl) (by kernel_rfl) (fun _ _ _ h => h) (Or.inl ⟨by rfl, ?_⟩) (by assumption) ?_
    rotate_left
    · (intro w hSw; (try dsimp only at hSw); go_simp; (try with_reducible rfl))
    (try simp only [Act.put, List.setIfInBounds_toArray, List.set_cons_zero, List.set_cons_succ])
    refine wpAnyH_take (i := 6) (oi := ⟨_, _, _, _, _, _⟩) (v := ?_) rfl (by kernel_rfl) (by kernel_rfl) (by kernel_rfl) (fun _ _ _ h => h) (Or.inl ⟨by rfl, ?_⟩) (by assumption) ?_
    rotate_left
    · (intro w hSw; (try dsimp only at hSw); go_simp; (try with_reducible rfl))
    (try simp only [Act.put, List.setIfInBounds_toArray, List.set_cons_zero, List.set_cons_succ])
    refine wpAnyH_take (i := 7) (oi := ⟨_, _, _, _, _, _⟩) (v := ?_) rfl (by kernel_rfl) (by kernel_rfl) (by kernel_rfl) (fun _ _ _ h => h) (Or.inl ⟨by rfl, ?_⟩) (by assumption) ?_
    rotate_left
    · (intro w hSw; (try dsimp only at hSw); go_simp; (try with_reducible rfl))
    (try simp only [Act.put, List.setIfInBounds_toArray, List.set_cons_zero, List.set_cons_succ])
    refine wpAnyH_take (i := 8) (oi := ⟨_, _, _, _, _, _⟩) (v := ?_) rfl (by kernel_rfl) (by kernel_rfl) (by kernel_rfl) (fun _ _ _ h => h) (Or.inl ⟨by rfl, ?_⟩) (by assumption) ?_
    rotate_left
    · (intro w hSw; (try dsimp only at hSw); go_simp; (try with_reducible rfl))
    (try simp only [Act.put, List.setIfInBounds_toArray, List.set_cons_zero, List.set_cons_succ])
    refine wpAnyH_take (i := 9) (oi := ⟨_, _, _, _, _, _⟩) (v := ?_) rfl (by kernel_rfl) (by kernel_rfl) (by kernel_rfl) (fun _ _ _ h => h) (Or.inl ⟨by rfl, ?_⟩) (by assumption) ?_
    rotate_left
    · (intro w hSw; (try dsimp only at hSw); go_simp; (try with_reducible rfl))
    (try simp only [Act.put, List.setIfInBounds_toArray, List.set_cons_zero, List.set_cons_succ])
    refine wpAnyH_take (i := 10) (oi := ⟨_, _, _, _, _, _⟩) (v := ?_) rfl (by kernel_rfl) (by kernel_rfl) (by kernel_rfl) (fun _ _ _ h => h) (Or.inl ⟨by rfl, ?_⟩) (by assumption) ?_
    rotate_left
    · (intro w hSw; (try dsimp only at hSw); go_simp; (try with_reducible rfl))
    (try simp only [Act.put, List.setIfInBounds_toArray, List.set_cons_zero, List.set_cons_succ])
    refine wpAnyH_ready (rs := [11]) (by kernel_rfl) (by simp) ?_
    refine AllReadyH.cons (o := ⟨_, _, _, _, _, _⟩) rfl (fun K hK => ?_) AllReadyH.nil
    go_simp
    (go_at_call 94; refine (implOppN_any m ((m + 2) % 4) hm4 rfl _).mono ?_; rintro e w4 ⟨rfl, rfl⟩)
    refine hK.out _ _ ?_ (fun hHeld => ?_)
    · (try dsimp only)
      (((try go_split_ands); (try dsimp only); (repeat' apply And.intro)) <;> (repeat (first | with_reducible assumption | ((with_reducible refine cnew0 ?_); simp; done) | ((with_reducible refine cnew1 ?_); simp; done) | (with_reducible refine akeep ?_) | (with_reducible refine dkeep ?_) | ((with_reducible refine skeep ?_ ?_); rotate_left; (first | ((try dsimp only); omega) | (simp; done) | (simp; omega))) | (with_reducible refine bkeep hb3 ?_))))
    clear hK K
    (try simp only [Act.put, List.setIfInBounds_toArray, List.set_cons_zero, List.set_cons_succ])
    refine wpAnyH_ready (rs := [12]) (by kernel_rfl) (by simp) ?_
    refine AllReadyH.cons (o := ⟨_, _, _, _, _, _⟩) rfl (fun K hK => ?_) AllReadyH.nil
    go_simp
    (go_at_call 93; refine (glueAt_any vg vt S (tlN ps x.b) ((m + 2) % 4) _ (HS.out.below (show Below w0.heap.size w0 _ by (repeat (first | exact Below.refl _ _ | refine Below.setCell ?_ (by first | (simp; done) | (simp; omega) | omega) _ | refine belowN ?_ _ | refine Below.drew ?_ | refine Below.alloc ?_ (by first | (simp; done) | (simp; omega) | omega) _ | refine Below.trans ?_ (Below.mono (by assumption) (by first | (simp; done) | (simp; omega) | omega)))))).t htbl ho4 H4b.out).mono ?_; rintro e w5 ⟨rfl, hb3⟩; rw [HQ2.out])
    refine hK.out _ _ ?_ (fun hHeld => ?_)
    · (try dsimp only)
      (((try go_split_ands); (try dsimp only); (repeat' apply And.intro)) <;> (repeat (first | with_reducible assumption | ((with_reducible refine cnew0 ?_); simp; done) | ((with_reducible refine cnew1 ?_); simp; done) | (with_reducible refine akeep ?_) | (with_reducible refine dkeep ?_) | ((with_reducible refine skeep ?_ ?_); rotate_left; (first | ((try dsimp only); omega) | (simp; done) | (simp; omega))) | (with_reducible refine bkeep hb3 ?_))))
    clear hK K
    (try simp only [Act.put, List.setIfInBounds_toArray, List.set_cons_zero, List.set_cons_succ])
    refine wpAnyH_take (i := 13) (oi := ⟨_, _, _, _, _, _⟩) (v := ?_) rfl (by kernel_rfl) (by kernel_rfl) (by kernel_rfl) (fun _ _ _ h => h) (Or.inl ⟨by rfl, ?_⟩) (by assumption) ?_
    rotate_left
    · (intro w hSw; (try dsimp only at hSw); go_simp; (try with_reducible rfl))
    (try simp only [Act.put, List.setIfInBounds_toArray, List.set_cons_zero, List.set_cons_succ])
    refine wpAnyH_take (i := 14) (oi := ⟨_, _, _, _, _, _⟩) (v := ?_) rfl (by kernel_rfl) (by kernel_rfl) (by kernel_rfl) (fun _ _ _ h => h) (Or.inl ⟨by rfl, ?_⟩) (by assumption) ?_
    rotate_left
    · (intro w hSw; (try dsimp only at hSw); go_simp; (try with_reducible rfl))
    (try simp only [Act.put, List.setIfInBounds_toArray, List.set_cons_zero, List.set_cons_succ])
    refine wpAnyH_done (by kernel_rfl) ?_ _
    dsimp only [onlyN]
    have B5 : Below w3.heap.size w3 w5 := by (repeat (first | exact Below.refl _ _ | refine Below.setCell ?_ (by first | (simp; done) | (simp; omega) | omega) _ | refine belowN ?_ _ | refine Below.drew ?_ | refine Below.alloc ?_ (by first | (simp; done) | (simp; omega) | omega) _ | refine Below.trans ?_ (Below.mono (by assumption) (by first | (simp; done) | (simp; omega) | omega))))
    have z5 := B5.size
    have B05 : Below W'.heap.size W' w5 := B3.trans (B5.mono z3)
    have hJ5 := hJ _ _ _ _ hJ1 (Aside.of B05)
    have b05 : Below w0.heap.size w0 w5 := hb1.trans (B05.mono s01)
    have X5 := HX3.out.below B5
    have Y5 := HY3.out.below B5
    have S5 := HS3.out.below B5
    have A5 := HA3.out.below B5
    clear u0 u1 u2 k0 k1 f0 cb3 hHeld hb3
    obtain ⟨u0, u1, u2⟩ := id X5
    obtain ⟨v0⟩ := id Y5
    by_cases hpq : p = q
    · have hbn : (p == q) = true := by simpa using hpq
      have HSN : Hid (misT S ps (pre ++ [x]) = misT S ps pre) := Lib.hid <| by rw [misT_snoc, misOf_no (by rw [HPQ.out]; simp [hpq]), List.append_nil]
      clear hpq
      gi_wp2
      refine ⟨fun _ h => (by cases h), ?_⟩
      gi_wp2
      exact ⟨C, ⟨by rw [HSN.out]; exact hJ5, nq1, by omega⟩, fun k h => ⟨.inl h, by have := hC k h; omega⟩, Spare.of B05⟩
    · have hbn : (p == q) = false := by simpa using hpq
      have HSN : Hid (misT S ps (pre ++ [x]) = misT S ps pre ++ [⟨x.a, x.b, 0⟩]) := Lib.hid <| by rw [misT_snoc, misOf_yes (by rw [HPQ.out]; simp [hpq])]
      obtain ⟨fn, tmps, assign, body, hyd, hR⟩ := hY _ _ ⟨x.a, x.b, 0⟩ w5 hJ5 (fun j h => by have := hC j h; omega) (by omega) (by rw [← HSN.out]; exact misT_pre hpre)
      dsimp only [encB] at hyd
      clear hpq
      gi_wp2
      refine (roundIn_round hR).mono ?_
      rintro e W3 ⟨rfl, C', hJ4, hC4, hsp⟩
      have z4 := hsp.size
      have nq4 : ¬ C' W.heap.size := fun h => (hC4 _ h).1.elim nq1 (fun h => by omega)
      clear hyd hR
      gi_wp2
      exact ⟨C', ⟨by rw [HSN.out]; exact hJ4, nq4, Y5.of_block (hsp.block _ (by omega) (.inr ⟨Nat.le_refl _, nq1⟩)), S5.of_block (hsp.block _ (by omega) (.inl hNs)), A5.of_block (hsp.block _ (by omega) (.inl hNa)), b05.trans (hsp.below hN (by omega)), by omega⟩,
        fun k h => ⟨(hC4 k h).1.imp id (fun h => by omega), (hC4 k h).2⟩, (Spare.of B05).trans (hsp.mono (by omega))⟩
  case done =>
    rintro C W3 hzW ⟨h1, h2, h3, h4, h5, h6, h7⟩ nD hK
    gi_wp2
    refine ⟨by simp, .inl ⟨_, _, rfl, run_takeDeferred hK, ?_⟩⟩
    exact ⟨_, results_none rfl _ _ _, ⟨_, rfl⟩, C, hJ _ _ _ _ h1 (Aside.put (by omega) nD _), by simp; omega⟩
end Go.Proofs.YtnofbeeihdgmdaaDoor
