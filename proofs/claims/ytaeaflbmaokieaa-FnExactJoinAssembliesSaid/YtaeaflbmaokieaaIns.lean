/-
  The program's insertion in order. Conditions: each theorem's own.
-/
import Derived.Test.YtaeaflbmaokieaaPut
import Derived.Deep.AppendLies
namespace Go.Proofs.Ytaeaflbmaokieaa
open Go.RowKit

theorem ownsRow_of_row {w : World} {base g n cap m : Nat} {e : TypeId} {f : Nat → Value} {xs : List Value} (h : w.rowIs g e (cap * m) f) (h1 : n ≤ cap) (h2 : cap ≤ maxLen) (hb : base ≤ g) (hl : xs.length = n * m) (hx : ∀ j, j < n * m → xs[j]? = some (f j)) :
    w.ownsRow base e m (.slice (some ⟨g, 0, none⟩) n cap) n xs := by
  obtain ⟨cs, hh, hs, hf⟩ := h
  refine ⟨hl, .inr ⟨g, cap, cs, rfl, hb, hh, h1, h2, hs, ?_⟩⟩
  apply List.ext_getElem?
  intro j
  have hnm : n * m ≤ cap * m := Nat.mul_le_mul_right _ h1
  by_cases hj : j < n * m
  · rw [List.getElem?_take_of_lt hj, hx j hj]
    simpa using hf j (by omega)
  · rw [List.getElem?_eq_none (by simp; omega), List.getElem?_eq_none (by omega)]
/-- Behind the first element that lies behind a point all lie behind it. -/
def Mono (P : List Pl) (x y : Int) : Prop := ∀ i j, i < j → j < P.length → lessB x y (pX P i) (pY P i) = true → lessB x y (pX P j) (pY P j) = true
theorem Form.mono {P : List Pl} (h : Form P) (x y : Int) : Mono P x y := fun i j hij hj h1 => by
  have h2 := h.below hij hj
  rw [lessB_iff] at h1 h2 ⊢
  omega
theorem upN_is {P : List Pl} {x y : Int} {q : Nat} (hq : q ≤ P.length) (h1 : ∀ j, j < q → lessB x y (pX P j) (pY P j) = false) (h2 : ∀ j, q ≤ j → j < P.length → lessB x y (pX P j) (pY P j) = true) : upN P x y = q := by
  by_cases ha : upN P x y < q
  · have := upN_at (P := P) (x := x) (y := y) (by omega)
    rw [h1 _ ha] at this; cases this
  · by_cases hb : q < upN P x y
    · have := upN_no hb
      rw [h2 q (Nat.le_refl _) (Nat.lt_of_lt_of_le hb (upN_le P x y))] at this; cases this
    · omega
/-- What the search's closure is bound to. -/
structure Bound (w : World) (bl bi bp : Nat) (v : Value) (x y t : Int) : Prop where
  l : w.cell? ⟨bl, 0, none⟩ = some (.func (.func 63) #[] #[])
  i0 : w.cell? ⟨bi, 0, none⟩ = some (.int .i64 x)
  i1 : w.cell? ⟨bi, 1, none⟩ = some (.int .i64 y)
  i2 : w.cell? ⟨bi, 2, none⟩ = some (.int .i64 t)
  p : w.cell? ⟨bp, 0, none⟩ = some v
theorem Bound.below {w w1 : World} {bl bi bp : Nat} {v : Value} {x y t : Int} (h : Bound w bl bi bp v x y t) (hb : Below w.heap.size w w1) : Bound w1 bl bi bp v x y t :=
  ⟨cell_below hb h.l, cell_below hb h.i0, cell_below hb h.i1, cell_below hb h.i2, cell_below hb h.p⟩

set_option maxRecDepth 100000 in
set_option maxHeartbeats 2000000 in
set_option linter.unusedSimpArgs false in
theorem lessAt_any (bl bi bp : Nat) (v : Value) (P : List Pl) (x y t : Int) (k : Nat) (w : World) (hB : Bound w bl bi bp v x y t) (hv : Plcs w v P) (hk : k < P.length) :
    Calls Try.prog 88 #[.int .i64 k, .pointer (some ⟨bl, 0, none⟩), .pointer (some ⟨bi, 0, none⟩), .pointer (some ⟨bp, 0, none⟩)] w fun e w' => e = .returned (.bool (lessB x y (pX P k) (pY P k))) ∧ Below w.heap.size w w' := by
  obtain ⟨ao, cap, rfl, hl, hm, hc⟩ := hv.open_
  unfold maxLen at hm
  obtain ⟨b, off, rfl, H1⟩ := hc (by omega)
  obtain ⟨c0, c1, c2⟩ := H1 k hk
  obtain ⟨l0, i0, i1, i2, p0⟩ := hB
  have hki : (k : Int) < P.length := by omega
  have hk0 : (0 : Int) ≤ k := by omega
  clear hc H1 hv
  go_enter Try.func88, Try.ntmps88
  go_wp2_with fail
  refine wp_region_held_drew (S := (fun w' => w'.cell? ⟨bl, 0, none⟩ = some (.func (.func 63) #[] #[]) ∧ w'.cell? ⟨bi, 0, none⟩ = some (.int .i64 x) ∧ w'.cell? ⟨bi, 1, none⟩ = some (.int .i64 y) ∧ w'.cell? ⟨bi, 2, none⟩ = some (.int .i64 t) ∧ w'.cell? ⟨bp, 0, none⟩ = some (.slice (some ⟨b, off, none⟩) P.length cap) ∧ w'.cell? ⟨b, off + k * 3, none⟩ = some (.int .i64 (pX P k)) ∧ w'.cell? ⟨b, off + k * 3 + 1, none⟩ = some (.int .i64 (pY P k)) ∧ w'.cell? ⟨b, off + k * 3 + 2, none⟩ = some (.int .i64 (pT P k)))) (by kernel_rfl) ?_ (fun hHeld => ?_)
  · (try dsimp only)
    (((try go_split_ands); (try dsimp only); (repeat' apply And.intro)) <;> (repeat (first | with_reducible assumption | ((with_reducible refine cnew0 ?_); simp; done) | ((with_reducible refine cnew1 ?_); simp; done) | (with_reducible refine akeep ?_) | (with_reducible refine dkeep ?_) | ((with_reducible refine skeep ?_ ?_); rotate_left; (first | ((try dsimp only); omega) | (simp; done) | (simp; omega))) | (with_reducible refine bkeep hb3 ?_))))
  refine wpAnyH_take (i := 0) (oi := ⟨_, _, _, _, _, _⟩) (v := ?_) rfl (by kernel_rfl) (by kernel_rfl) (by kernel_rfl) (fun _ _ _ h => h) (Or.inl ⟨by rfl, ?_⟩) (by assumption) ?_
  rotate_left
  · (intro w hSw; (try dsimp only at hSw); go_simp; (try with_reducible rfl))
  (try simp only [Act.put, List.setIfInBounds_toArray, List.set_cons_zero, List.set_cons_succ])
  refine wpAnyH_take (i := 1) (oi := ⟨_, _, _, _, _, _⟩) (v := ?_) rfl (by kernel_rfl) (by kernel_rfl) (by kernel_rfl) (fun _ _ _ h => h) (Or.inl ⟨by rfl, ?_⟩) (by assumption) ?_
  rotate_left
  · (intro w hSw; (try dsimp only at hSw); go_simp; (try with_reducible rfl))
  (try simp only [Act.put, List.setIfInBounds_toArray, List.set_cons_zero, List.set_cons_succ])
  refine wpAnyH_take (i := 2) (oi := ⟨_, _, _, _, _, _⟩) (v := ?_) rfl (by kernel_rfl) (by kernel_rfl) (by kernel_rfl) (fun _ _ _ h => h) (Or.inl ⟨by rfl, ?_⟩) (by assumption) ?_
  rotate_left
  · (intro w hSw; (try dsimp only at hSw); go_simp; (try with_reducible rfl))
  (try simp only [Act.put, List.setIfInBounds_toArray, List.set_cons_zero, List.set_cons_succ])
  refine wpAnyH_take (i := 3) (oi := ⟨_, _, _, _, _, _⟩) (v := ?_) rfl (by kernel_rfl) (by kernel_rfl) (by kernel_rfl) (fun _ _ _ h => h) (Or.inl ⟨by rfl, ?_⟩) (by assumption) ?_
  rotate_left
  · (intro w hSw; (try dsimp only at hSw); go_simp; (try with_reducible rfl))
  (try simp only [Act.put, List.setIfInBounds_toArray, List.set_cons_zero, List.set_cons_succ])
  refine wpAnyH_take (i := 4) (oi := ⟨_, _, _, _, _, _⟩) (v := ?_) rfl (by kernel_rfl) (by kernel_rfl) (by kernel_rfl) (fun _ _ _ h => h) (Or.inl ⟨by rfl, ?_⟩) (by assumption) ?_
  rotate_left
  · (intro w hSw; (try dsimp only at hSw); go_simp; (try with_reducible rfl))
  (try simp only [Act.put, List.setIfInBounds_toArray, List.set_cons_zero, List.set_cons_succ])
  refine wpAnyH_take (i := 5) (oi := ⟨_, _, _, _, _, _⟩) (v := ?_) rfl (by kernel_rfl) (by kernel_rfl) (by kernel_rfl) (fun _ _ _ h => h) (Or.inl ⟨by rfl, ?_⟩) (by assumption) ?_
  rotate_left
  · (intro w hSw; (try dsimp only at hSw); go_simp; (try with_reducible rfl))
  (try simp only [Act.put, List.setIfInBounds_toArray, List.set_cons_zero, List.set_cons_succ])
  refine wpAnyH_ready (rs := [6]) (by kernel_rfl) (by simp) ?_
  refine AllReadyH.cons (o := ⟨_, _, _, _, _, _⟩) rfl (fun K hK => ?_) AllReadyH.nil
  go_simp
  (go_at_call 63; refine (lessPlaced_any _ _ _ _ _ _ _).mono ?_; rintro e w1 ⟨rfl, hb3⟩)
  refine hK.out _ _ ?_ (fun hHeld => ?_)
  · (try dsimp only)
    (((try go_split_ands); (try dsimp only); (repeat' apply And.intro)) <;> (repeat (first | with_reducible assumption | ((with_reducible refine cnew0 ?_); simp; done) | ((with_reducible refine cnew1 ?_); simp; done) | (with_reducible refine akeep ?_) | (with_reducible refine dkeep ?_) | ((with_reducible refine skeep ?_ ?_); rotate_left; (first | ((try dsimp only); omega) | (simp; done) | (simp; omega))) | (with_reducible refine bkeep hb3 ?_))))
  clear hK K
  (try simp only [Act.put, List.setIfInBounds_toArray, List.set_cons_zero, List.set_cons_succ])
  refine wpAnyH_take (i := 7) (oi := ⟨_, _, _, _, _, _⟩) (v := ?_) rfl (by kernel_rfl) (by kernel_rfl) (by kernel_rfl) (fun _ _ _ h => h) (Or.inl ⟨by rfl, ?_⟩) (by assumption) ?_
  rotate_left
  · (intro w hSw; (try dsimp only at hSw); go_simp; (try with_reducible rfl))
  (try simp only [Act.put, List.setIfInBounds_toArray, List.set_cons_zero, List.set_cons_succ])
  refine wpAnyH_done (by kernel_rfl) ?_ _
  go_wp2_with fail
  go_ret
  exact ⟨rfl, by (repeat (first | exact Below.refl _ _ | refine Below.setCell ?_ (by first | (simp; done) | (simp; omega) | omega) _ | refine belowN ?_ _ | refine Below.drew ?_ | refine Below.alloc ?_ (by first | (simp; done) | (simp; omega) | omega) _ | refine Below.trans ?_ (Below.mono (by assumption) (by first | (simp; done) | (simp; omega) | omega))))⟩

set_option maxRecDepth 100000 in
set_option maxHeartbeats 2000000 in
set_option linter.unusedSimpArgs false in
theorem search_any (bl bi bp : Nat) (v : Value) (P : List Pl) (x y t : Int) (w : World) (hB : Bound w bl bi bp v x y t) (hv : Plcs w v P) (h500 : P.length ≤ 1048576) (hmono : Mono P x y) :
    Calls Try.prog 87 #[.int .i64 P.length, .func (.func 88) #[] #[.pointer (some ⟨bl, 0, none⟩), .pointer (some ⟨bi, 0, none⟩), .pointer (some ⟨bp, 0, none⟩)]] w fun e w' => e = .returned (.int .i64 (upN P x y)) ∧ Below w.heap.size w w' := by
  have HB := Lib.hid hB
  have HV := Lib.hid hv
  have HM := Lib.hid hmono
  clear hB hv hmono
  go_enter Try.func87, Try.ntmps87
  go_wp2_with fail
  go_loopw [5, 6] (fun l h wr => ∃ lo hi : Nat, lo ≤ hi ∧ hi ≤ P.length ∧ l = .int .i64 lo ∧ h = .int .i64 hi ∧ Hid (∀ j, j < lo → lessB x y (pX P j) (pY P j) = false) ∧ Hid (∀ j, hi ≤ j → j < P.length → lessB x y (pX P j) (pY P j) = true) ∧ Below w.heap.size w wr) (fun l h _ => (intOf h).toNat - (intOf l).toNat)
  case atStart => exact ⟨0, P.length, by omega, by omega, rfl, rfl, Lib.hid (fun j hj => by omega), Lib.hid (fun j h1 h2 => by omega), by (repeat (first | exact Below.refl _ _ | refine Below.setCell ?_ (by first | (simp; done) | (simp; omega) | omega) _ | refine belowN ?_ _ | refine Below.drew ?_ | refine Below.alloc ?_ (by first | (simp; done) | (simp; omega) | omega) _ | refine Below.trans ?_ (Below.mono (by assumption) (by first | (simp; done) | (simp; omega) | omega))))⟩
  case round =>
    obtain ⟨lo, hi, hlh, hhn, rfl, rfl, hlo, hhi, hbw⟩ := hrel
    by_cases hlt : lo < hi
    · obtain ⟨m, hm1⟩ : ∃ m, m = (lo + hi) / 2 := ⟨_, rfl⟩
      have hm2 : lo ≤ m := by omega
      have hm3 : m < hi := by omega
      have e1 : IntKind.i64.wrap ((lo : Int) + (hi : Int)) = (lo : Int) + (hi : Int) := IntWalk.i64_in _ (by omega)
      have hq : ((lo : Int) + (hi : Int)) / 2 = (m : Int) := by omega
      have hmP : m < P.length := by omega
      clear hm1
      go_wp2_with fail
      refine (lessAt_any bl bi bp v P x y t m _ (HB.out.below hbw) (HV.out.below hbw) hmP).mono ?_
      rintro e w1 ⟨rfl, hb1⟩
      have B1 : Below w.heap.size w w1 := hbw.trans (hb1.mono hbw.size)
      cases h1 : lessB x y (pX P m) (pY P m)
      · go_wp2_with fail
        go_roundw
        case rel =>
          refine ⟨m + 1, hi, by omega, by omega, by go_num, rfl, Lib.hid fun j hj => ?_, hhi, B1⟩
          by_cases hjm : j = m
          · subst hjm; exact h1
          · cases h2 : lessB x y (pX P j) (pY P j)
            · rfl
            · rw [HM.out j m (by omega) hmP h2] at h1; cases h1
        case measure => simp [intOf]; omega
      · go_wp2_with fail
        go_roundw
        case rel =>
          refine ⟨lo, m, by omega, by omega, rfl, rfl, hlo, Lib.hid fun j hj1 hj2 => ?_, B1⟩
          by_cases hjm : j = m
          · subst hjm; exact h1
          · exact HM.out m j (by omega) hj2 h1
        case measure => simp [intOf]; omega
    · obtain rfl : lo = hi := by omega
      have K := Lib.hid (upN_is hhn hlo.out hhi.out)
      go_wp2
      go_ret
      exact ⟨by rw [K.out]; rfl, hbw⟩

/-- A part of a row of placed tiles is written by 'copy' of a longer one. -/
theorem copy_part2 {w : World} {g N s q o dcap sl cap : Nat} {f : Nat → Value} {c : Nat → Nat → Int} {ad : Addr} (hrow : w.rowIs g 73 (N * 3) f) (hs : s + q ≤ N) (ho : q = 0 ∨ o = s * 3) (hq : q ≤ sl)
    (hsrc : ∀ j u, (cRow 3 c q)[j]? = some u → w.cell? (ad.add j) = some u) :
    (Builtin.copy_ #[28, 28] 3 #[.slice (some ⟨g, o, none⟩) q dcap, .slice (some ad) sl cap]).run Try.prog w = .ok (goInt q) (w.setCells g (s * 3) (cRow 3 c q)) := by
  have hmin : Nat.min sl q = q := Nat.min_eq_right hq
  have h := run_copy_rows (P := Try.prog) w 28 28 3 73 3 g o q dcap ad sl cap (cRow 3 c q) Try.underlying28 size_placed (by rw [hmin, cRow_len]) hsrc ?_ ?_ (cRow_one 3 c q)
  · rw [hmin] at h
    rw [h]
    rcases ho with rfl | rfl
    · rfl
    · rfl
  · intro j hj
    rw [cRow_len] at hj
    rcases ho with rfl | rfl
    · omega
    · rw [hrow.cell (by omega)]; rfl
  · intro j hj
    exact hrow.frozen _

theorem setCells_far {b : Nat} {a : Addr} : ∀ (vs : List Value) (o : Nat) (w : World), b ≠ a.block → (w.setCells b o vs).cell? a = w.cell? a
  | [], _, _, _ => rfl
  | v :: r, o, w, h => by
    rw [World.setCells]
    exact (setCells_far r (o + 1) _ h).trans (World.cell?_setCell_far w ⟨b, o, none⟩ a v h)
/-- What a row holds behind the insertion. -/
def insF (q n : Nat) (x y t : Int) (P : List Pl) (f0 : Nat → Value) (i : Nat) : Value :=
  if i = q * 3 + 2 then .int .i64 t else if i = q * 3 + 1 then .int .i64 y else if i = q * 3 then .int .i64 x else
    if (q + 1) * 3 ≤ i then ((cRow 3 (fun i j => pC P (q + i) j) (n - q))[i - (q + 1) * 3]?).getD (f0 i) else f0 i
theorem insF_at {P : List Pl} {q : Nat} {x y t : Int} {f0 : Nat → Value} (hq : q ≤ P.length) (hf : ∀ j, j < P.length * 3 → f0 j = pCell P j) :
    ∀ j, j < (P.length + 1) * 3 → (cRow 3 (pC (insP P q ⟨x, y, t⟩)) (P.length + 1))[j]? = some (insF q P.length x y t P f0 j) := by
  intro j hj
  have h3 : j % 3 < 3 := Nat.mod_lt _ (by omega)
  have h := cRow_at 3 (pC (insP P q ⟨x, y, t⟩)) (n := P.length + 1) (i := j / 3) (j := j % 3) (by omega) h3
  rw [show j / 3 * 3 + j % 3 = j by omega] at h
  rw [h, insP_pC hq]
  congr 1
  unfold insF
  by_cases h1 : j / 3 < q
  · rw [if_pos h1, if_neg (by omega), if_neg (by omega), if_neg (by omega), if_neg (by omega), hf j (by omega)]
    rfl
  · rw [if_neg h1]
    by_cases h2 : j / 3 = q
    · rw [if_pos h2]
      obtain hm | hm | hm : j % 3 = 0 ∨ j % 3 = 1 ∨ j % 3 = 2 := by omega
      · obtain rfl : j = q * 3 := by omega
        simp [hm]
      · obtain rfl : j = q * 3 + 1 := by omega
        simp [hm]
      · obtain rfl : j = q * 3 + 2 := by omega
        simp [hm]
    · rw [if_neg h2, if_neg (by omega), if_neg (by omega), if_neg (by omega), if_pos (by omega)]
      have hr := cRow_at 3 (fun i j => pC P (q + i) j) (n := P.length - q) (i := j / 3 - (q + 1)) (j := j % 3) (by omega) h3
      rw [show (j / 3 - (q + 1)) * 3 + j % 3 = j - (q + 1) * 3 by omega] at hr
      rw [hr]
      simp [show q + (j / 3 - (q + 1)) = j / 3 - 1 by omega]

set_option maxRecDepth 100000 in
set_option maxHeartbeats 2000000 in
set_option linter.unusedSimpArgs false in
/-- A placed tile is inserted into a list that the caller owns. -/
theorem insert_any (base : Nat) (v : Value) (P : List Pl) (x y t : Int) (w : World) (hown : w.ownsRow base 73 3 v P.length (cRow 3 (pC P) P.length)) (hbase : base ≤ w.heap.size) (h500 : P.length ≤ 1000) (hmono : Mono P x y) :
    Calls Try.prog 62 #[v, .agg #[.int .i64 x, .int .i64 y, .int .i64 t], .func (.func 63) #[] #[]] w fun e w' =>
      (∃ v', e = .returned v' ∧ w'.ownsRow base 73 3 v' (P.length + 1) (cRow 3 (pC (insP P (upN P x y) ⟨x, y, t⟩)) (P.length + 1))) ∧ Below base w w' := by
  obtain ⟨i0, hi, hz0, hz1, hz2⟩ := info_parts info_placed
  have HO := Lib.hid hown
  have hv : Plcs w v P := OwnA.plcs (OwnC.of_row hown)
  have HV := Lib.hid hv
  obtain ⟨ao, cap, rfl, -, -, -⟩ := hv.open_
  have HB := Lib.hid (show Bound (((w.alloc (.cells #[.slice ao P.length cap] 28)).alloc (.cells #[.int .i64 x, .int .i64 y, .int .i64 t] 73)).alloc (.cells #[.func (.func 63) #[] #[]] 82)) (w.heap.size + 1 + 1) (w.heap.size + 1) w.heap.size (.slice ao P.length cap) x y t from ⟨by simp [go_sem], by simp [go_sem], by simp [go_sem], by simp [go_sem], by simp [go_sem]⟩)
  have hlt := own_block_lt hown
  have hge := own_block_ge hown
  have HMO := Lib.hid hmono
  clear hown hv hmono
  go_enter Try.func62, Try.ntmps62
  go_wp2_with fail
  refine (search_any _ _ _ _ P x y t _ HB.out (HV.out.below (by (repeat (first | exact Below.refl _ _ | refine Below.setCell ?_ (by first | (simp; done) | (simp; omega) | omega) _ | refine belowN ?_ _ | refine Below.drew ?_ | refine Below.alloc ?_ (by first | (simp; done) | (simp; omega) | omega) _ | refine Below.trans ?_ (Below.mono (by assumption) (by first | (simp; done) | (simp; omega) | omega)))))) (by omega) HMO.out).mono ?_
  rintro e w1 ⟨rfl, hb1⟩
  have B1 : Below w.heap.size w w1 := by (repeat (first | exact Below.refl _ _ | refine Below.setCell ?_ (by first | (simp; done) | (simp; omega) | omega) _ | refine belowN ?_ _ | refine Below.drew ?_ | refine Below.alloc ?_ (by first | (simp; done) | (simp; omega) | omega) _ | refine Below.trans ?_ (Below.mono (by assumption) (by first | (simp; done) | (simp; omega) | omega))))
  have HB1 := Lib.hid (HB.out.below hb1)
  have l1 : w.heap.size + 1 + 1 < w1.heap.size := World.block_lt_of_cell? w1 ⟨w.heap.size + 1 + 1, 0, none⟩ HB1.out.l
  have hqle := upN_le P x y
  generalize hQ : upN P x y = q at *
  have HQ := Lib.hid hQ
  clear hQ
  obtain ⟨bl, bi0, bi1, bi2, bp⟩ := HB1.out
  have HO1 := Lib.hid (ownsRow_keep HO.out B1)
  have hn0 : some (w.heap.size + 1) ≠ (Value.slice ao P.length cap).ownBlock := fun a => by have := hlt _ a.symm; omega
  clear HB hb1
  go_wp2_with (at_builtin; refine wpList_append_lies _ rfl _ _ 28 rfl base 73 i0 (.agg #[.int .i64 0, .int .i64 0, .int .i64 0]) 3 24 Try.underlying28 hi hz0 hz1 hz2 rfl (by decide) _ _ _ rfl (HO1.out.alloc _) ⟨w1.heap.size, 0, none⟩ 1 1 [.int .i64 x, .int .i64 y, .int .i64 t] rfl rfl (World.news_of_block (cs := #[.int .i64 x, .int .i64 y, .int .i64 t]) (t := 73) (fr := (0, 0)) (heap_alloc_new w1 _)) (by intro u hu; simp at hu; rcases hu with rfl | rfl | rfl <;> rfl) (by omega) (maxLen_of (by omega)) (by omega) (by first | (simp; done) | (simp; omega) | omega) (w1.heap.size + 1) (by simp) ?_; intro g cap2 w2 hown2 hgrow2 hat hgl; have j0 := gkeep hgrow2 (akeep bi0) hn0; have j1 := gkeep hgrow2 (akeep bi1) hn0; have j2 := gkeep hgrow2 (akeep bi2) hn0)
  have hcl : P.length + 1 ≤ cap2 := by
    obtain ⟨-, h, -⟩ := row_fn hown2
    exact h
  obtain ⟨hg, -, hmax, f0, hrow, hf⟩ := row_fn hown2
  have hmax' := hmax
  unfold maxLen at hmax'
  have hP : ∀ j, j < P.length * 3 → f0 j = pCell P j := fun j hj => by
    have h3 : j % 3 < 3 := Nat.mod_lt _ (by omega)
    have h := hf j (by omega)
    have hr := cRow_at 3 (pC P) (n := P.length) (i := j / 3) (j := j % 3) (by omega) h3
    rw [show j / 3 * 3 + j % 3 = j by omega] at hr
    rw [List.getElem?_append_left (by rw [cRow_len]; exact hj), hr] at h
    simpa [pCell] using h
  have HINS := Lib.hid (insF_at (x := x) (y := y) (t := t) hqle hP)
  obtain ⟨o, ho1, ho2⟩ : ∃ o : Nat, (if cap2 = q + 1 then some (⟨g, 0, none⟩ : Addr) else some ⟨g, (q + 1) * 3, none⟩) = some ⟨g, o, none⟩ ∧ (P.length - q = 0 ∨ o = (q + 1) * 3) := by
    by_cases h : cap2 = q + 1
    · exact ⟨0, if_pos h, .inl (by omega)⟩
    · exact ⟨(q + 1) * 3, if_neg h, .inr rfl⟩
  have hrowD : w2.drew.rowIs g 73 (cap2 * 3) f0 := hrow.of_block rfl
  have hsrc : ∀ j u, (cRow 3 (fun i j => pC P (q + i) j) (P.length - q))[j]? = some u → w2.drew.cell? ((⟨g, q * 3, none⟩ : Addr).add j) = some u := by
    intro j u hu
    have hj : j < (P.length - q) * 3 := by
      have := (List.getElem?_eq_some_iff.1 hu).1
      rwa [cRow_len] at this
    have h3 : j % 3 < 3 := Nat.mod_lt _ (by omega)
    have hr := cRow_at 3 (fun i j => pC P (q + i) j) (n := P.length - q) (i := j / 3) (j := j % 3) (by omega) h3
    rw [show j / 3 * 3 + j % 3 = j by omega, hu] at hr
    rw [add_none, hrowD.cell (by omega), hP _ (by omega)]
    unfold pCell
    rw [show (q * 3 + j) / 3 = q + j / 3 by omega, show (q * 3 + j) % 3 = j % 3 by omega]
    simpa using hr.symm
  have hcp := copy_part2 (dcap := cap2 - (q + 1)) (sl := P.length + 1 - q) (cap := cap2 - q) (o := o) (s := q + 1) (q := P.length - q) (c := fun i j => pC P (q + i) j) (ad := ⟨g, q * 3, none⟩) hrowD (by omega) ho2 (by omega) hsrc
  have hrowC := rowIs_setCells (cRow 3 (fun i j => pC P (q + i) j) (P.length - q)) ((q + 1) * 3) _ _ hrowD
  have BC : Below base w (w2.drew.setCells g ((q + 1) * 3) (cRow 3 (fun i j => pC P (q + i) j) (P.length - q))) := below_setCells hg _ _ _ ((((B1.mono hbase).alloc (by omega) (Obj.cells #[.int .i64 x, .int .i64 y, .int .i64 t] 73)).grown hgrow2 (by first | (simp; done) | (simp; omega) | omega) (fun j hj => hge j hj)).drew)
  have hgne : g ≠ w.heap.size + 1 := fun h => by
    rcases hat with h1 | h1
    · have := hlt _ h1; omega
    · omega
  have jC0 := (setCells_far (cRow 3 (fun i j => pC P (q + i) j) (P.length - q)) ((q + 1) * 3) w2.drew (b := g) (a := ⟨w.heap.size + 1, 0, none⟩) hgne).trans (dkeep j0)
  have jC1 := (setCells_far (cRow 3 (fun i j => pC P (q + i) j) (P.length - q)) ((q + 1) * 3) w2.drew (b := g) (a := ⟨w.heap.size + 1, 1, none⟩) hgne).trans (dkeep j1)
  have jC2 := (setCells_far (cRow 3 (fun i j => pC P (q + i) j) (P.length - q)) ((q + 1) * 3) w2.drew (b := g) (a := ⟨w.heap.size + 1, 2, none⟩) hgne).trans (dkeep j2)
  generalize w2.drew.setCells g ((q + 1) * 3) (cRow 3 (fun i j => pC P (q + i) j) (P.length - q)) = wC at *
  have g0 := hrowC.cell (i := q * 3) (by omega)
  have g1 := hrowC.cell (i := q * 3 + 1) (by omega)
  have g2 := hrowC.cell (i := q * 3 + 2) (by omega)
  have z0 := hrowC.frozen (q * 3)
  have z1 := hrowC.frozen (q * 3 + 1)
  have z2 := hrowC.frozen (q * 3 + 2)
  have HROW := Lib.hid hrowC
  have hsl : P.length + 1 - (q + 1) = P.length - q := by omega
  have hq1 : q + 1 ≤ P.length + 1 := by omega
  have hq2 : q + 1 ≤ cap2 := by omega
  have hq3 : ¬ cap2 = q := by omega
  have hq4 : q ≤ cap2 := by omega
  have hq5 : q ≤ P.length + 1 := by omega
  have hq6 : (0 : Int) ≤ (q : Int) + 1 := by omega
  have hq7 : (q : Int) + 1 ≤ ((P.length + 1 : Nat) : Int) := by omega
  have hq8 : (q : Int) < ((P.length + 1 : Nat) : Int) := by omega
  have hq9 : (q : Int) ≤ (P.length : Int) + 1 := by omega
  have hq10 : (q : Int) + 1 ≤ (P.length : Int) + 1 := by omega
  have hq11 : (q : Int) < (P.length : Int) + 1 := by omega
  have hw1 : IntKind.i64.wrap ((q : Int) + 1) = (q : Int) + 1 := IntWalk.i64_in _ (by omega)
  clear hf hP hrow hrowD hsrc hrowC hown2 hgrow2 bl bi0 bi1 bi2 bp hat
  refine wp_region_held_drew (S := (fun w' => w'.cell? ⟨w.heap.size + 1, 0, none⟩ = some (.int .i64 x))) (by kernel_rfl) ?_ (fun hHeld => ?_)
  · (try dsimp only)
    (((try go_split_ands); (try dsimp only); (repeat' apply And.intro)) <;> (repeat (first | with_reducible assumption | ((with_reducible refine cnew0 ?_); simp; done) | ((with_reducible refine cnew1 ?_); simp; done) | (with_reducible refine akeep ?_) | (with_reducible refine dkeep ?_) | ((with_reducible refine skeep ?_ ?_); rotate_left; (first | ((try dsimp only); omega) | (simp; done) | (simp; omega))) | (with_reducible refine bkeep hb3 ?_))))
  refine wpAnyH_take (i := 0) (oi := ⟨_, _, _, _, _, _⟩) (v := ?_) rfl (by kernel_rfl) (by kernel_rfl) (by kernel_rfl) (fun _ _ _ h => h) (Or.inl ⟨by rfl, ?_⟩) (by assumption) ?_
  rotate_left
  · (intro w hSw; (try dsimp only at hSw); go_simp; (try with_reducible rfl))
  (try simp only [Act.put, List.setIfInBounds_toArray, List.set_cons_zero, List.set_cons_succ])
  refine wpAnyH_take (i := 1) (oi := ⟨_, _, _, _, _, _⟩) (v := ?_) rfl (by kernel_rfl) (by kernel_rfl) (by kernel_rfl) (fun _ _ _ h => h) (Or.inl ⟨by rfl, ?_⟩) (by assumption) ?_
  rotate_left
  · (intro w hSw; (try dsimp only at hSw); go_simp; (try with_reducible rfl))
  (try simp only [Act.put, List.setIfInBounds_toArray, List.set_cons_zero, List.set_cons_succ])
  refine wpAnyH_take (i := 2) (oi := ⟨_, _, _, _, _, _⟩) (v := ?_) rfl (by kernel_rfl) (by kernel_rfl) (by kernel_rfl) (fun _ _ _ h => h) (Or.inl ⟨by rfl, ?_⟩) (by assumption) ?_
  rotate_left
  · (intro w hSw; (try dsimp only at hSw); go_simp; (try with_reducible rfl))
  (try simp only [Act.put, List.setIfInBounds_toArray, List.set_cons_zero, List.set_cons_succ])
  refine wpAnyH_take (i := 3) (oi := ⟨_, _, _, _, _, _⟩) (v := ?_) rfl (by kernel_rfl) (by kernel_rfl) (by kernel_rfl) (fun _ _ _ h => h) (Or.inl ⟨by rfl, ?_⟩) (by assumption) ?_
  rotate_left
  · (intro w hSw; (try dsimp only at hSw); go_simp; (try with_reducible rfl))
  (try simp only [Act.put, List.setIfInBounds_toArray, List.set_cons_zero, List.set_cons_succ])
  refine wpAnyH_take (i := 4) (oi := ⟨_, _, _, _, _, _⟩) (v := ?_) rfl (by kernel_rfl) (by kernel_rfl) (by kernel_rfl) (fun _ _ _ h => h) (Or.inl ⟨by rfl, ?_⟩) (by assumption) ?_
  rotate_left
  · (intro w hSw; (try dsimp only at hSw); go_simp; (try with_reducible rfl))
  (try simp only [Act.put, List.setIfInBounds_toArray, List.set_cons_zero, List.set_cons_succ])
  refine wpAnyH_take (i := 5) (oi := ⟨_, _, _, _, _, _⟩) (v := ?_) rfl (by kernel_rfl) (by kernel_rfl) (by kernel_rfl) (fun _ _ _ h => h) (Or.inl ⟨by rfl, ?_⟩) (by assumption) ?_
  rotate_left
  · (intro w hSw; (try dsimp only at hSw); go_simp; (try with_reducible rfl))
  (try simp only [Act.put, List.setIfInBounds_toArray, List.set_cons_zero, List.set_cons_succ])
  refine wpAnyH_take (i := 6) (oi := ⟨_, _, _, _, _, _⟩) (v := ?_) rfl (by kernel_rfl) (by kernel_rfl) (by kernel_rfl) (fun _ _ _ h => h) (Or.inl ⟨by rfl, ?_⟩) (by assumption) ?_
  rotate_left
  · (intro w hSw; (try dsimp only at hSw); go_simp; (try with_reducible rfl))
  (try simp only [Act.put, List.setIfInBounds_toArray, List.set_cons_zero, List.set_cons_succ])
  refine wpAnyH_ready (rs := [7]) (by kernel_rfl) (by simp) ?_
  refine AllReadyH.cons (o := ⟨_, _, _, _, _, _⟩) rfl (fun K hK => ?_) AllReadyH.nil
  go_simp
  refine hK.out _ _ ?_ (fun hHeld => ?_)
  · (try dsimp only)
    (((try go_split_ands); (try dsimp only); (repeat' apply And.intro)) <;> (repeat (first | with_reducible assumption | ((with_reducible refine cnew0 ?_); simp; done) | ((with_reducible refine cnew1 ?_); simp; done) | (with_reducible refine akeep ?_) | (with_reducible refine dkeep ?_) | ((with_reducible refine skeep ?_ ?_); rotate_left; (first | ((try dsimp only); omega) | (simp; done) | (simp; omega))) | (with_reducible refine bkeep hb3 ?_))))
  clear hK K
  (try simp only [Act.put, List.setIfInBounds_toArray, List.set_cons_zero, List.set_cons_succ])
  refine wpAnyH_done (by kernel_rfl) ?_ _
  go_wp2_with fail
  go_ret
  refine ⟨⟨_, rfl, by rw [HQ.out]; exact ownsRow_of_row (f := insF q P.length x y t P f0) (((HROW.out.set (q * 3) _).set (q * 3 + 1) _).set (q * 3 + 2) _) hcl hmax hg (by rw [cRow_len]) HINS.out⟩, by (repeat (first | exact Below.refl _ _ | refine Below.setCell ?_ (by first | (simp; done) | (simp; omega) | omega) _ | refine belowN ?_ _ | refine Below.drew ?_ | refine Below.alloc ?_ (by first | (simp; done) | (simp; omega) | omega) _ | refine Below.trans ?_ (Below.mono (by assumption) (by first | (simp; done) | (simp; omega) | omega))))⟩

end Go.Proofs.Ytaeaflbmaokieaa
