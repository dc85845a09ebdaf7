/-
  A list of placed tiles without one of them; TakeTile, the model's and the program's. Conditions: each theorem's own.
-/
import Derived.Test.YtaeaflbmaokieaaMove
import Derived.Test.YtaeaflbmaokieaaStepA
namespace Go.Proofs.Ytaeaflbmaokieaa
open Go.RowKit

def dropP (P : List Pl) (k : Nat) : List Pl := P.eraseIdx k
theorem dropP_len {P : List Pl} {k : Nat} (h : k < P.length) : (dropP P k).length = P.length - 1 := by simp [dropP, List.length_eraseIdx, h]
theorem dropP_lt {P : List Pl} {k i : Nat} (h : i < k) : pX (dropP P k) i = pX P i ∧ pY (dropP P k) i = pY P i ∧ pT (dropP P k) i = pT P i := by
  simp [pX, pY, pT, dropP, List.getD_eq_getElem?_getD, List.getElem?_eraseIdx, h]
theorem dropP_ge {P : List Pl} {k i : Nat} (h : k ≤ i) : pX (dropP P k) i = pX P (i + 1) ∧ pY (dropP P k) i = pY P (i + 1) ∧ pT (dropP P k) i = pT P (i + 1) := by
  simp [pX, pY, pT, dropP, List.getD_eq_getElem?_getD, List.getElem?_eraseIdx, Nat.not_lt.2 h]
theorem dropP_pC (P : List Pl) (k i j : Nat) : pC (dropP P k) i j = if i < k then pC P i j else pC P (i + 1) j := by
  by_cases h : i < k
  · obtain ⟨a, b, c⟩ := dropP_lt (P := P) h
    rw [if_pos h]; simp [pC, a, b, c]
  · obtain ⟨a, b, c⟩ := dropP_ge (P := P) (Nat.not_lt.1 h)
    rw [if_neg h]; simp [pC, a, b, c]
/-- What a call returns that makes an assembly, or an error. -/
def ArPost (W : World) (R : List Pl) (c : Int) (e : Ending) (w' : World) : Prop := ∃ v', e = .returned (.tuple #[.agg #[v'], .int .i64 c]) ∧ OwnA w' W.heap.size w'.heap.size v' R
theorem ar_nil {W w' : World} {R : List Pl} {c d : Int} (h : d = c) (h0 : R = []) : ArPost W R c (.returned (.tuple #[.agg #[.slice none 0 0], .int .i64 d])) w' := ⟨.slice none 0 0, by rw [h], .inl ⟨rfl, by rw [h0]; rfl⟩⟩
def tkC (P : List Pl) (x y : Int) : Int := if ixN P x y < P.length then 0 else 3
open Classical in
noncomputable def takC (P : List Pl) (x y : Int) : Int := if formB P = true then tkC P x y else 1
noncomputable def takR (P : List Pl) (x y : Int) : List Pl := if takC P x y = 0 then dropP P (ixN P x y) else []
theorem tak_1 {P : List Pl} {x y : Int} (h : formB P = false) : takC P x y = 1 := by simp [takC, h]
theorem tak_3 {P : List Pl} {x y : Int} (h : formB P = true) (hn : ¬ ixN P x y < P.length) : takC P x y = 3 := by unfold takC tkC; rw [if_pos h, if_neg hn]
theorem tak_0 {P : List Pl} {x y : Int} (h : formB P = true) (hn : ixN P x y < P.length) : takC P x y = 0 := by unfold takC tkC; rw [if_pos h, if_pos hn]
theorem takR_no {P : List Pl} {x y c : Int} (h : takC P x y = c) (h0 : c ≠ 0) : takR P x y = [] := by unfold takR; rw [if_neg (by rw [h]; exact h0)]
theorem smallTakeTile {P : List Pl} {x y : Int} (h : P.length ≤ 1048576) : (takR P x y).length ≤ 1048576 := by
  unfold takR
  split
  · unfold dropP
    have := List.length_eraseIdx_le P (ixN P x y)
    omega
  · exact Nat.zero_le _
/-- The cells of m elements from element s on. -/
theorem cRow_from (m : Nat) (c : Nat → Nat → Int) (s n : Nat) : cRow m c (s + n) = cRow m c s ++ cRow m (fun i j => c (s + i) j) n := by
  induction n with
  | zero => simp [cRow]
  | succ n ih => rw [show s + (n + 1) = s + n + 1 by omega, cRow, ih, cRow, List.append_assoc]; rfl
theorem dropP_row {P : List Pl} {k : Nat} (hk : k < P.length) : cRow 3 (pC (dropP P k)) (P.length - 1) = cRow 3 (pC P) k ++ cRow 3 (fun i j => pC P (k + 1 + i) j) (P.length - (k + 1)) := by
  rw [show P.length - 1 = k + (P.length - (k + 1)) by omega, cRow_from]
  congr 1
  · exact cRow_congr fun i j hi _ => by rw [dropP_pC, if_pos hi]
  · exact cRow_congr fun i j hi _ => by rw [dropP_pC, if_neg (by omega), show k + i + 1 = k + 1 + i by omega]
/-- The cells that lie from element s on. -/
theorem row_cells {w : World} {b off : Nat} {P : List Pl} (H : ∀ i, i < P.length → w.cell? ⟨b, off + i * 3, none⟩ = some (.int .i64 (pX P i)) ∧ w.cell? ⟨b, off + i * 3 + 1, none⟩ = some (.int .i64 (pY P i)) ∧ w.cell? ⟨b, off + i * 3 + 2, none⟩ = some (.int .i64 (pT P i))) {s n : Nat} (hs : s + n ≤ P.length) :
    ∀ j u, (cRow 3 (fun i j => pC P (s + i) j) n)[j]? = some u → w.cell? ((⟨b, off + s * 3, none⟩ : Addr).add j) = some u := by
  intro q u hq
  have hlt : q < n * 3 := by
    have := (List.getElem?_eq_some_iff.1 hq).1
    rwa [cRow_len] at this
  have h3 : q % 3 < 3 := Nat.mod_lt _ (by omega)
  have h := cRow_at 3 (fun i j => pC P (s + i) j) (n := n) (i := q / 3) (j := q % 3) (by omega) h3
  rw [show q / 3 * 3 + q % 3 = q by omega, hq] at h
  obtain ⟨c0, c1, c2⟩ := H (s + q / 3) (by omega)
  rw [add_none]
  obtain rfl : u = .int .i64 (pC P (s + q / 3) (q % 3)) := by simpa using h
  obtain hm | hm | hm : q % 3 = 0 ∨ q % 3 = 1 ∨ q % 3 = 2 := by omega
  · rw [hm, show off + s * 3 + q = off + (s + q / 3) * 3 by omega, c0]; rfl
  · rw [hm, show off + s * 3 + q = off + (s + q / 3) * 3 + 1 by omega, c1]; rfl
  · rw [hm, show off + s * 3 + q = off + (s + q / 3) * 3 + 2 by omega, c2]; rfl
theorem row_news {w w' : World} {b off : Nat} {P : List Pl} (H : ∀ i, i < P.length → w.cell? ⟨b, off + i * 3, none⟩ = some (.int .i64 (pX P i)) ∧ w.cell? ⟨b, off + i * 3 + 1, none⟩ = some (.int .i64 (pY P i)) ∧ w.cell? ⟨b, off + i * 3 + 2, none⟩ = some (.int .i64 (pT P i))) (hb : Below w.heap.size w w') {s n : Nat} (hs : s + n ≤ P.length) :
    ∀ j u, (cRow 3 (fun i j => pC P (s + i) j) n)[j]? = some u → w'.cell? ((⟨b, off + s * 3, none⟩ : Addr).add j) = some u := fun j u h => cell_below hb (row_cells H hs j u h)
theorem row_news0 {w w' : World} {b off : Nat} {P : List Pl} (H : ∀ i, i < P.length → w.cell? ⟨b, off + i * 3, none⟩ = some (.int .i64 (pX P i)) ∧ w.cell? ⟨b, off + i * 3 + 1, none⟩ = some (.int .i64 (pY P i)) ∧ w.cell? ⟨b, off + i * 3 + 2, none⟩ = some (.int .i64 (pT P i))) (hb : Below w.heap.size w w') {n : Nat} (hs : n ≤ P.length) :
    ∀ j u, (cRow 3 (pC P) n)[j]? = some u → w'.cell? ((⟨b, off, none⟩ : Addr).add j) = some u := by
  have h := row_news H hb (s := 0) (n := n) (by omega)
  simpa using h
theorem cRow_one (m : Nat) (c : Nat → Nat → Int) (n : Nat) : ∀ u ∈ cRow m c n, u.oneCell' = true := by
  induction n with
  | zero => intro u hu; simp [cRow] at hu
  | succ n ih =>
    intro u hu
    rw [cRow, List.mem_append] at hu
    exact hu.elim (ih u) (cCells_one m c n u)

set_option maxRecDepth 100000 in
set_option maxHeartbeats 2000000 in
set_option linter.unusedSimpArgs false in
theorem specTake_any (v1 : Value) (P1 : List Pl) (x y : Int) (w : World) (h1 : Plcs w v1 P1) (m1 : P1.length ≤ 1048576) :
    Calls Try.prog 21 #[.agg #[v1], .agg #[.int .i64 x, .int .i64 y]] w fun e w' => ArPost w (takR P1 x y) (takC P1 x y) e w' ∧ Below w.heap.size w w' := by
  have HV := Lib.hid h1
  obtain ⟨ao, cap, rfl, hl, hm, hc⟩ := h1.open_
  have hm' := hm
  unfold maxLen at hm
  have H0 := Lib.hid hc
  have HB := Lib.hid (boxes_m w (.slice ao P1.length cap) (.int .i64 x) (.int .i64 y) 30 34 30)
  obtain ⟨i0, hi, hz0, hz1, hz2⟩ := info_parts info_placed
  clear h1 hc
  go_enter Try.func21, Try.ntmps21
  go_wp2_with fail
  refine (l03Form_any _ _ P1 _ HB.out.1 (HV.out.below (by (repeat (first | exact Below.refl _ _ | refine Below.setCell ?_ (by first | (simp; done) | (simp; omega) | omega) _ | refine belowN ?_ _ | refine Below.drew ?_ | refine Below.alloc ?_ (by first | (simp; done) | (simp; omega) | omega) _ | refine Below.trans ?_ (Below.mono (by assumption) (by first | (simp; done) | (simp; omega) | omega))))))).mono ?_
  rintro e w1 ⟨rfl, hb1⟩
  have B1 : Below w.heap.size w w1 := by (repeat (first | exact Below.refl _ _ | refine Below.setCell ?_ (by first | (simp; done) | (simp; omega) | omega) _ | refine belowN ?_ _ | refine Below.drew ?_ | refine Below.alloc ?_ (by first | (simp; done) | (simp; omega) | omega) _ | refine Below.trans ?_ (Below.mono (by assumption) (by first | (simp; done) | (simp; omega) | omega))))
  have z1 := B1.size
  have A1 := Lib.hid (HB.out.1.below hb1)
  have D1 := Lib.hid (HB.out.2.1.below hb1)
  have R1 := Lib.hid (HB.out.2.2.1.below hb1)
  have Z1 := Lib.hid ((hb1.frozen (p := ⟨w.heap.size + 1 + 1, 0, none⟩) (by simp)).trans HB.out.2.2.2)
  have l1 := R1.out.lt
  clear hb1 HB
  have x0 := R1.out.c0
  have zx := Z1.out
  obtain ⟨d0, d1, -, -⟩ := D1.out
  cases hf : formB P1
  · have K := Lib.hid (tak_1 (x := x) (y := y) hf)
    go_wp2_with fail
    refine bodyPost_ret (v := .tuple #[.agg #[.slice none 0 0], .int .i64 1]) ?_ rfl ⟨ar_nil K.out.symm (takR_no K.out (by decide)), by (repeat (first | exact Below.refl _ _ | refine Below.setCell ?_ (by first | (simp; done) | (simp; omega) | omega) _ | refine belowN ?_ _ | refine Below.drew ?_ | refine Below.alloc ?_ (by first | (simp; done) | (simp; omega) | omega) _ | refine Below.trans ?_ (Below.mono (by assumption) (by first | (simp; done) | (simp; omega) | omega))))⟩
    simp [results, Try.results21, go_sem, x0, zx]
  have HF := Lib.hid hf
  have FF := Lib.hid (formB_iff.1 hf)
  clear hf
  have h500 := FF.out.len
  go_wp2_with fail
  refine (l03Index_any _ _ P1 x y _ A1.out (HV.out.below B1) FF.out).mono ?_
  rintro e w2 ⟨rfl, hb2⟩
  have B2 : Below w.heap.size w w2 := by (repeat (first | exact Below.refl _ _ | refine Below.setCell ?_ (by first | (simp; done) | (simp; omega) | omega) _ | refine belowN ?_ _ | refine Below.drew ?_ | refine Below.alloc ?_ (by first | (simp; done) | (simp; omega) | omega) _ | refine Below.trans ?_ (Below.mono (by assumption) (by first | (simp; done) | (simp; omega) | omega))))
  have z2 := B2.size
  have A2 := Lib.hid (A1.out.below hb2)
  have R2 := Lib.hid (R1.out.below hb2)
  have Z2 := Lib.hid ((hb2.frozen (p := ⟨w.heap.size + 1 + 1, 0, none⟩) (by dsimp only; omega)).trans zx)
  have l2 := R2.out.lt
  clear hb2 x0 zx d0 d1
  have x0 := R2.out.c0
  have zx := Z2.out
  by_cases hx : ixN P1 x y < P1.length
  · have K := Lib.hid (tak_0 HF.out hx)
    have HI : ixI P1 x y = ((ixN P1 x y : Nat) : Int) := ixI_yes hx rfl
    rw [HI]
    clear HI
    generalize hk : ixN P1 x y = k at *
    have a0 := A2.out.c0
    have hk0 : (0 : Int) ≤ k := by omega
    have hkc : k ≤ cap := by omega
    have hk1 : (k : Int) ≤ P1.length := by omega
    have hk2 : ((k : Int) + 1) ≤ P1.length := by omega
    have hw1 : IntKind.i64.wrap ((k : Int) + 1) = (k : Int) + 1 := IntWalk.i64_in _ (by omega)
    obtain ⟨b, off, rfl, H1⟩ := H0.out (by omega)
    go_wp2_with fail
    have hkl : k + 1 ≤ P1.length := hx
    have hkd : k + 1 ≤ cap := by omega
    have hk3 : (0 : Int) ≤ (k : Int) + 1 := by omega
    obtain ⟨ad, had, hnews⟩ : ∃ ad : Addr, (if cap = k + 1 then some (⟨b, off, none⟩ : Addr) else some ⟨b, off + (k + 1) * 3, none⟩) = some ad ∧ ∀ w', Below w.heap.size w w' → ∀ j u, (cRow 3 (fun i j => pC P1 (k + 1 + i) j) (P1.length - (k + 1)))[j]? = some u → w'.cell? (ad.add j) = some u := by
      by_cases hcap : cap = k + 1
      · refine ⟨_, if_pos hcap, fun w' _ j u h => ?_⟩
        rw [show P1.length - (k + 1) = 0 by omega] at h
        simp [cRow] at h
      · exact ⟨_, if_neg hcap, fun w' hb => row_news H1 hb (by omega)⟩
    have HN := Lib.hid hnews
    clear hnews
    refine wp_region_held_drew (S := (fun w' => w'.cell? ⟨w.heap.size, 0, none⟩ = some (.slice (some ⟨b, off, none⟩) P1.length cap))) (by kernel_rfl) ?_ (fun hHeld => ?_)
    · (try dsimp only)
      (((try go_split_ands); (try dsimp only); (repeat' apply And.intro)) <;> (repeat (first | with_reducible assumption | ((with_reducible refine cnew0 ?_); simp; done) | ((with_reducible refine cnew1 ?_); simp; done) | (with_reducible refine akeep ?_) | (with_reducible refine dkeep ?_) | ((with_reducible refine skeep ?_ ?_); rotate_left; (first | ((try dsimp only); omega) | (simp; done) | (simp; omega))) | (with_reducible refine bkeep hb3 ?_))))
    refine wpAnyH_take (i := 1) (oi := ⟨_, _, _, _, _, _⟩) (v := ?_) rfl (by kernel_rfl) (by kernel_rfl) (by kernel_rfl) (fun _ _ _ h => h) (Or.inl ⟨by rfl, ?_⟩) (by assumption) ?_
    rotate_left
    · (intro w hSw; (try dsimp only at hSw); go_simp; (try with_reducible rfl))
    (try simp only [Act.put, List.setIfInBounds_toArray, List.set_cons_zero, List.set_cons_succ])
    refine wpAnyH_take (i := 2) (oi := ⟨_, _, _, _, _, _⟩) (v := ?_) rfl (by kernel_rfl) (by kernel_rfl) (by kernel_rfl) (fun _ _ _ h => h) (Or.inl ⟨by rfl, ?_⟩) (by assumption) ?_
    rotate_left
    · (intro w hSw; (try dsimp only at hSw); go_simp; (try with_reducible rfl))
    (try simp only [Act.put, List.setIfInBounds_toArray, List.set_cons_zero, List.set_cons_succ])
    refine wpAnyH_take (i := 3) (oi := ⟨_, _, _, _, _, _⟩) (v := ?_) rfl (by kernel_rfl) (by kernel_rfl) (by kernel_rfl) (fun _ _ _ h => h) (Or.inl ⟨by rfl, ?_⟩) (by assumption) ?_
    rotate_left
    · (intro w hSw; (try dsimp only at hSw); go_simp; (try with_reducible rfl))
    (try simp only [Act.put, List.setIfInBounds_toArray, List.set_cons_zero, List.set_cons_succ])
    refine wpAnyH_take (i := 4) (oi := ⟨_, _, _, _, _, _⟩) (v := ?_) rfl (by kernel_rfl) (by kernel_rfl) (by kernel_rfl) (fun _ _ _ h => h) (Or.inl ⟨by rfl, ?_⟩) (by assumption) ?_
    rotate_left
    · (intro w hSw; (try dsimp only at hSw); go_simp; (try with_reducible rfl))
    (try simp only [Act.put, List.setIfInBounds_toArray, List.set_cons_zero, List.set_cons_succ])
    refine wpAnyH_take (i := 6) (oi := ⟨_, _, _, _, _, _⟩) (v := ?_) rfl (by kernel_rfl) (by kernel_rfl) (by kernel_rfl) (fun _ _ _ h => h) (Or.inl ⟨by rfl, ?_⟩) (by assumption) ?_
    rotate_left
    · (intro w hSw; (try dsimp only at hSw); go_simp; (try with_reducible rfl))
    (try simp only [Act.put, List.setIfInBounds_toArray, List.set_cons_zero, List.set_cons_succ])
    refine wpAnyH_take (i := 7) (oi := ⟨_, _, _, _, _, _⟩) (v := ?_) rfl (by kernel_rfl) (by kernel_rfl) (by kernel_rfl) (fun _ _ _ h => h) (Or.inl ⟨by rfl, ?_⟩) (by assumption) ?_
    rotate_left
    · (intro w hSw; (try dsimp only at hSw); go_simp; (try with_reducible rfl))
    (try simp only [Act.put, List.setIfInBounds_toArray, List.set_cons_zero, List.set_cons_succ])
    refine wpAnyH_take (i := 8) (oi := ⟨_, _, _, _, _, _⟩) (v := ?_) rfl (by kernel_rfl) (by kernel_rfl) (by kernel_rfl) (fun _ _ _ h => h) (Or.inl ⟨by rfl, ?_⟩) (by assumption) ?_
    rotate_left
    · (intro w hSw; (try dsimp only at hSw); go_simp; (try with_reducible rfl))
    (try simp only [Act.put, List.setIfInBounds_toArray, List.set_cons_zero, List.set_cons_succ])
    refine wpAnyH_take (i := 9) (oi := ⟨_, _, _, _, _, _⟩) (v := ?_) rfl (by kernel_rfl) (by kernel_rfl) (by kernel_rfl) (fun _ _ _ h => h) (Or.inl ⟨by rfl, ?_⟩) (by assumption) ?_
    rotate_left
    · (intro w hSw; (try dsimp only at hSw); go_simp; (try with_reducible rfl))
    (try simp only [Act.put, List.setIfInBounds_toArray, List.set_cons_zero, List.set_cons_succ])
    refine wpAnyH_take (i := 10) (oi := ⟨_, _, _, _, _, _⟩) (v := ?_) rfl (by kernel_rfl) (by kernel_rfl) (by kernel_rfl) (fun _ _ _ h => h) (Or.inl ⟨by rfl, ?_⟩) (by assumption) ?_
    rotate_left
    · (intro w hSw; (try dsimp only at hSw); go_simp; (try with_reducible rfl))
    (try simp only [Act.put, List.setIfInBounds_toArray, List.set_cons_zero, List.set_cons_succ])
    refine wpAnyH_ready (rs := [0]) (by kernel_rfl) (by simp) ?_
    refine AllReadyH.cons (o := ⟨_, _, _, _, _, _⟩) rfl (fun K hK => ?_) AllReadyH.nil
    go_simp
    skip
    refine hK.out _ _ ?_ (fun hHeld => ?_)
    · (try dsimp only)
      (((try go_split_ands); (try dsimp only); (repeat' apply And.intro)) <;> (repeat (first | with_reducible assumption | ((with_reducible refine cnew0 ?_); simp; done) | ((with_reducible refine cnew1 ?_); simp; done) | (with_reducible refine akeep ?_) | (with_reducible refine dkeep ?_) | ((with_reducible refine skeep ?_ ?_); rotate_left; (first | ((try dsimp only); omega) | (simp; done) | (simp; omega))) | (with_reducible refine bkeep hb3 ?_))))
    clear hK K
    (try simp only [Act.put, List.setIfInBounds_toArray, List.set_cons_zero, List.set_cons_succ])
    refine wpAnyH_ready (rs := [5]) (by kernel_rfl) (by simp) ?_
    refine AllReadyH.cons (o := ⟨_, _, _, _, _, _⟩) rfl (fun K hK => ?_) AllReadyH.nil
    refine step_append_own _ rfl _ _ 28 rfl w2.heap.size 73 i0 (.agg #[.int .i64 0, .int .i64 0, .int .i64 0]) 3 24 Try.underlying28 hi hz0 hz1 hz2 rfl (by decide) _ _ _ rfl (World.ownsRow_lit w2.drew #[] 0 (by simp) (by unfold maxLen; omega) rfl) ⟨b, off, none⟩ k cap (cRow 3 (pC P1) k) rfl (by rw [cRow_len]) (row_news0 H1 (by (repeat (first | exact Below.refl _ _ | refine Below.setCell ?_ (by first | (simp; done) | (simp; omega) | omega) _ | refine belowN ?_ _ | refine Below.drew ?_ | refine Below.alloc ?_ (by first | (simp; done) | (simp; omega) | omega) _ | refine Below.trans ?_ (Below.mono (by assumption) (by first | (simp; done) | (simp; omega) | omega))))) (by omega)) (cRow_one 3 (pC P1) k) (maxLen_of (by omega)) (by omega) (by simp) ?_; intro v3 w3 hown3 hgrow3; have hb3 : Below w2.heap.size w2 w3 := (show Below w2.heap.size w2 (w2.drew.alloc (.cells #[] 73)) by (repeat (first | exact Below.refl _ _ | refine Below.setCell ?_ (by first | (simp; done) | (simp; omega) | omega) _ | refine belowN ?_ _ | refine Below.drew ?_ | refine Below.alloc ?_ (by first | (simp; done) | (simp; omega) | omega) _ | refine Below.trans ?_ (Below.mono (by assumption) (by first | (simp; done) | (simp; omega) | omega))))).grown hgrow3 (by simp) (fun j hj => Nat.le_of_eq (Option.some.inj hj)); have z3 : w2.heap.size ≤ w3.heap.size := hb3.size; have q3 := cell_below hb3 a0
    refine hK.out _ _ ?_ (fun hHeld => ?_)
    · (try dsimp only)
      (((try go_split_ands); (try dsimp only); (repeat' apply And.intro)) <;> (repeat (first | with_reducible assumption | ((with_reducible refine cnew0 ?_); simp; done) | ((with_reducible refine cnew1 ?_); simp; done) | (with_reducible refine akeep ?_) | (with_reducible refine dkeep ?_) | ((with_reducible refine skeep ?_ ?_); rotate_left; (first | ((try dsimp only); omega) | (simp; done) | (simp; omega))) | (with_reducible refine bkeep hb3 ?_))))
    clear hK K
    (try simp only [Act.put, List.setIfInBounds_toArray, List.set_cons_zero, List.set_cons_succ])
    refine wpAnyH_ready (rs := [11]) (by kernel_rfl) (by simp) ?_
    refine AllReadyH.cons (o := ⟨_, _, _, _, _, _⟩) rfl (fun K hK => ?_) AllReadyH.nil
    refine step_append_own _ rfl _ _ 28 rfl w2.heap.size 73 i0 (.agg #[.int .i64 0, .int .i64 0, .int .i64 0]) 3 24 Try.underlying28 hi hz0 hz1 hz2 rfl (by decide) _ _ _ rfl hown3 ad (P1.length - (k + 1)) (cap - (k + 1)) (cRow 3 (fun i j => pC P1 (k + 1 + i) j) (P1.length - (k + 1))) rfl (by rw [cRow_len]) (HN.out _ (B2.trans (hb3.mono (by omega)))) (cRow_one 3 _ _) (maxLen_of (by omega)) (by omega) (by omega) ?_; intro v4 w4 hown4 hgrow4; have hb4 : Below w2.heap.size w2 w4 := hb3.grown hgrow4 z3 (fun j hj => own_block_ge hown3 j hj); have z4 : w2.heap.size ≤ w4.heap.size := hb4.size; have q4 := cell_below hb4 a0; have x4 := cell_below hb4 x0; have f4 := (hb4.frozen (p := ⟨w.heap.size + 1 + 1, 0, none⟩) (by dsimp only; omega)).trans zx; obtain ⟨va, vn, vc, rfl⟩ := own_shape hown4
    refine hK.out _ _ ?_ (fun hHeld => ?_)
    · (try dsimp only)
      (((try go_split_ands); (try dsimp only); (repeat' apply And.intro)) <;> (repeat (first | with_reducible assumption | ((with_reducible refine cnew0 ?_); simp; done) | ((with_reducible refine cnew1 ?_); simp; done) | (with_reducible refine akeep ?_) | (with_reducible refine dkeep ?_) | ((with_reducible refine skeep ?_ ?_); rotate_left; (first | ((try dsimp only); omega) | (simp; done) | (simp; omega))) | (with_reducible refine bkeep hb3 ?_))))
    clear hK K
    (try simp only [Act.put, List.setIfInBounds_toArray, List.set_cons_zero, List.set_cons_succ])
    refine wpAnyH_take (i := 12) (oi := ⟨_, _, _, _, _, _⟩) (v := ?_) rfl (by kernel_rfl) (by kernel_rfl) (by kernel_rfl) (fun _ _ _ h => h) (Or.inl ⟨by rfl, ?_⟩) (by assumption) ?_
    rotate_left
    · (intro w hSw; (try dsimp only at hSw); go_simp; (try with_reducible rfl))
    (try simp only [Act.put, List.setIfInBounds_toArray, List.set_cons_zero, List.set_cons_succ])
    refine wpAnyH_ready (rs := [13]) (by kernel_rfl) (by simp) ?_
    refine AllReadyH.cons (o := ⟨_, _, _, _, _, _⟩) rfl (fun K hK => ?_) AllReadyH.nil
    go_simp
    refine hK.out _ _ ?_ (fun hHeld => ?_)
    · (try dsimp only)
      (((try go_split_ands); (try dsimp only); (repeat' apply And.intro)) <;> (repeat (first | with_reducible assumption | ((with_reducible refine cnew0 ?_); simp; done) | ((with_reducible refine cnew1 ?_); simp; done) | (with_reducible refine akeep ?_) | (with_reducible refine dkeep ?_) | ((with_reducible refine skeep ?_ ?_); rotate_left; (first | ((try dsimp only); omega) | (simp; done) | (simp; omega))) | (with_reducible refine bkeep hb3 ?_))))
    clear hK K
    (try simp only [Act.put, List.setIfInBounds_toArray, List.set_cons_zero, List.set_cons_succ])
    refine wpAnyH_take (i := 14) (oi := ⟨_, _, _, _, _, _⟩) (v := ?_) rfl (by kernel_rfl) (by kernel_rfl) (by kernel_rfl) (fun _ _ _ h => h) (Or.inl ⟨by rfl, ?_⟩) (by assumption) ?_
    rotate_left
    · (intro w hSw; (try dsimp only at hSw); go_simp; (try with_reducible rfl))
    (try simp only [Act.put, List.setIfInBounds_toArray, List.set_cons_zero, List.set_cons_succ])
    refine wpAnyH_done (by kernel_rfl) ?_ _
    have HW : w4.ownsRow w2.heap.size 73 3 (.slice va vn vc) (P1.length - 1) (cRow 3 (pC (dropP P1 k)) (P1.length - 1)) := by
      rw [dropP_row hkl, show P1.length - 1 = 0 + k + (P1.length - (k + 1)) by omega]
      exact hown4
    have B4 : Below w.heap.size w w4 := B2.trans (hb4.mono (by omega))
    go_wp2_with fail
    refine bodyPost_ret (v := .tuple #[.agg #[.slice va vn vc], .int .i64 0]) ?_ rfl ⟨⟨_, by rw [K.out], ?_⟩, by (repeat (first | exact Below.refl _ _ | refine Below.setCell ?_ (by first | (simp; done) | (simp; omega) | omega) _ | refine belowN ?_ _ | refine Below.drew ?_ | refine Below.alloc ?_ (by first | (simp; done) | (simp; omega) | omega) _ | refine Below.trans ?_ (Below.mono (by assumption) (by first | (simp; done) | (simp; omega) | omega))))⟩
    · simp [results, Try.results21, go_sem, x4, f4]
    · have e : takR P1 x y = dropP P1 k := by unfold takR; rw [if_pos K.out, hk]
      rw [e]
      unfold OwnA
      rw [dropP_len hkl]
      exact OwnC.mono (OwnC.of_row (ownsRow_setCell_below HW (by dsimp only; omega) _)) (by omega) (by first | exact Nat.le_refl _ | (simp [World.setCell]; done) | (simp [World.setCell]; omega))
  · have K := Lib.hid (tak_3 HF.out hx)
    have HI : ixI P1 x y = -1 := by unfold ixI; rw [if_neg hx]
    rw [HI]
    go_wp2_with fail
    refine bodyPost_ret (v := .tuple #[.agg #[.slice none 0 0], .int .i64 3]) ?_ rfl ⟨ar_nil K.out.symm (takR_no K.out (by decide)), by (repeat (first | exact Below.refl _ _ | refine Below.setCell ?_ (by first | (simp; done) | (simp; omega) | omega) _ | refine belowN ?_ _ | refine Below.drew ?_ | refine Below.alloc ?_ (by first | (simp; done) | (simp; omega) | omega) _ | refine Below.trans ?_ (Below.mono (by assumption) (by first | (simp; done) | (simp; omega) | omega))))⟩
    simp [results, Try.results21, go_sem, x0, zx]

end Go.Proofs.Ytaeaflbmaokieaa
