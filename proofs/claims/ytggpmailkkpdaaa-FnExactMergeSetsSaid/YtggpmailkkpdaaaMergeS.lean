/-
  MergeSets of the model. Conditions: the theorem's own.
-/
import Derived.Test.YtggpmailkkpdaaaMrgB
namespace Go.Proofs.Ytggpmailkkpdaaa
open Go.RowKit

theorem mG_all {gs hs : List Gl} {P : Gl → Prop} (ha : ∀ g ∈ gs, P g) (hb : ∀ k, k < hs.length → P ⟨gN hs k, gS hs k⟩) {k : Nat} (hk : k ≤ hs.length) : ∀ g ∈ mG gs hs k, P g := by
  induction k with
  | zero => simpa [mG, mNew] using ha
  | succ k ih =>
    have ih := ih (by omega)
    by_cases h : gFind gs (gN hs k) = 0
    · rw [(mG_in h).1]
      intro g hg
      rcases List.mem_append.1 hg with hg | hg
      · exact ih g hg
      · simp at hg; subst hg; exact hb k (by omega)
    · obtain ⟨p, hp, hf⟩ := gFind_some h
      rw [(mG_out hf).1]
      exact ih
theorem mT_all {ts us : List Tl} {ns : List Int} {P : Tl → Prop} (ha : ∀ t ∈ ts, P t) (hb : ∀ k, k < us.length → P ⟨tN us k, ren ns (tS us k)⟩) {k : Nat} (hk : k ≤ us.length) : ∀ t ∈ mT ts us ns k, P t := by
  induction k with
  | zero => simpa [mT, tNew] using ha
  | succ k ih =>
    have ih := ih (by omega)
    by_cases h : tFind ts (tN us k) = -1
    · rw [mT_in h]
      intro t ht
      rcases List.mem_append.1 ht with ht | ht
      · exact ih t ht
      · simp at ht; subst ht; exact hb k (by omega)
    · rw [mT_out h]
      exact ih
theorem gl_mem {gs : List Gl} {i : Nat} (h : i < gs.length) : gs.getD i default ∈ gs := by rw [List.getD_eq_getElem?_getD, List.getElem?_eq_getElem h]; exact List.getElem_mem h
theorem tl_mem {ts : List Tl} {i : Nat} (h : i < ts.length) : ts.getD i default ∈ ts := by rw [List.getD_eq_getElem?_getD, List.getElem?_eq_getElem h]; exact List.getElem_mem h
theorem gl_all {gs : List Gl} {P : Gl → Prop} (h : ∀ i, i < gs.length → P (gs.getD i default)) : ∀ g ∈ gs, P g := by
  intro g hg
  obtain ⟨i, hi, rfl⟩ := List.mem_iff_getElem.1 hg
  have := h i hi
  simpa [List.getD_eq_getElem?_getD, hi] using this
theorem tl_all {ts : List Tl} {P : Tl → Prop} (h : ∀ i, i < ts.length → P (ts.getD i default)) : ∀ t ∈ ts, P t := by
  intro t ht
  obtain ⟨i, hi, rfl⟩ := List.mem_iff_getElem.1 ht
  have := h i hi
  simpa [List.getD_eq_getElem?_getD, hi] using this
theorem mS_small {A B : Set_} (sa : A.small) (sb : B.small) (h1 : (mS A B).gs.length ≤ 1048576) (h2 : (mS A B).ts.length ≤ 1048576) : (mS A B).small := by
  refine ⟨h1, fun i hi => ?_, h2, fun i hi => ?_⟩
  · exact mG_all (P := fun g => g.name.size ≤ 1048576) (gl_all fun i hi => sa.gn i hi) (fun k hk => sb.gn k hk) (Nat.le_refl _) _ (gl_mem hi)
  · exact mT_all (P := fun t => t.name.size ≤ 1048576 ∧ t.sides.length ≤ 1048576) (tl_all fun i hi => sa.tn i hi) (fun k hk => ⟨(sb.tn k hk).1, by simp [ren]⟩) (Nat.le_refl _) _ (tl_mem hi)
theorem mS_ok {A B : Set_} (oa : A.ok) (ob : B.ok) (VA : Valid A) (VB : Valid B) (h1 : (mS A B).gs.length ≤ 1000) : (mS A B).ok := by
  have G := gIn VA.g.all VB.g.all (Nat.le_refl B.gs.length)
  refine ⟨mG_all (P := Gl.ok) oa.g (fun k hk => gN_ok ob.g hk) (Nat.le_refl _), mT_all (P := Tl.ok) oa.t (fun k hk => ⟨(tN_ok ob.t hk).1, ?_⟩) (Nat.le_refl _)⟩
  have b2 := (VB.t.all k hk).2.1.2
  have hn : ∀ m, m < 4 → (Lit.int .i64 (iAt (mNums A.gs B.gs B.gs.length) (iAt (tS B.ts k) m).toNat)).wf = true := by
    intro m hm
    have := b2 m hm
    have hh := G.num (iAt (tS B.ts k) m).toNat (by omega)
    have h1' : (mG A.gs B.gs B.gs.length).length ≤ 1000 := h1
    exact wf_small hh.1 (by omega)
  intro z hz
  simp only [ren, List.mem_cons, List.not_mem_nil, or_false] at hz
  rcases hz with rfl | rfl | rfl | rfl
  · exact hn 0 (by omega)
  · exact hn 1 (by omega)
  · exact hn 2 (by omega)
  · exact hn 3 (by omega)
/-- A set in rows of its own, from lo on. -/
def RowSet (w : World) (lo : Nat) (vg vt : Value) (S : Set_) : Prop :=
  ∃ b1 b2, lo ≤ b1 ∧ lo ≤ b2 ∧ w.ownsRow b1 62 2 vg S.gs.length (gCells S.gs) ∧ Built w b2 vt S.ts.length (tN S.ts) (tS S.ts)
theorem RowSet.setIn {w : World} {lo : Nat} {vg vt : Value} {S : Set_} (h : RowSet w lo vg vt S) : SetIn w vg vt S :=
  let ⟨_, _, _, _, h1, h2⟩ := h
  ⟨(OwnGs.of_row h1).glues, (Built.ts h2).tiles⟩
theorem RowSet.below {w w1 : World} {lo : Nat} {vg vt : Value} {S : Set_} (h : RowSet w lo vg vt S) (hb : Below w.heap.size w w1) : RowSet w1 lo vg vt S :=
  let ⟨b1, b2, l1, l2, h1, h2⟩ := h
  ⟨b1, b2, l1, l2, ownsRow_keep h1 hb, h2.keep hb⟩
theorem row_within {w w1 : World} {base n size a b : Nat} {e : TypeId} {v : Value} {xs : List Value} (h : w.ownsRow base e size v n xs) (hw : Within a b w w1) (ho : w.heap.size ≤ a ∨ b ≤ base) : w1.ownsRow base e size v n xs := by
  obtain ⟨h1, h2⟩ := h
  refine ⟨h1, ?_⟩
  rcases h2 with h2 | ⟨g, cap, cur, rfl, hb, hg, rest⟩
  · exact .inl h2
  · have hl := hp_lt hg
    exact .inr ⟨g, cap, cur, rfl, hb, (hw.block g hl (by omega)).trans hg, rest⟩
theorem RowSet.keep {w w1 : World} {lo a b : Nat} {vg vt : Value} {S : Set_} (h : RowSet w lo vg vt S) (hw : Within a b w w1) (ho : w.heap.size ≤ a ∨ b ≤ lo) : RowSet w1 lo vg vt S := by
  obtain ⟨b1, b2, l1, l2, h1, G, sv, k1, k2, k3, k4⟩ := h
  refine ⟨b1, b2, l1, l2, row_within h1 hw (by omega), G, sv, row_within k1 hw (by omega), fun i hi => (k2 i hi).keep hw ?_, fun i hi => ⟨(k3 i hi).1, Nat.lt_of_lt_of_le (k3 i hi).2.1 hw.size, (k3 i hi).2.2⟩, k4⟩
  have := k3 i hi
  omega
/-- What the model's merge returns. -/
def ShowPost (W : World) (S : Set_) (c : Int) (e : Ending) (w' : World) : Prop := ∃ vg vt, e = .returned (.tuple #[.agg #[vg, vt], .int .i64 c]) ∧ RowSet w' W.heap.size vg vt S
theorem row_nil {W w' : World} {c x : Int} {S : Set_} (hS : S = ⟨[], []⟩) (hc : x = c) : ShowPost W S c (.returned (.tuple #[.agg #[.slice none 0 0, .slice none 0 0], .int .i64 x])) w' := by
  subst hS; subst hc
  exact ⟨_, _, rfl, _, _, Nat.le_refl _, Nat.le_refl _, World.ownsRow_nil _ _ _ _, Built.nil _ _ _ _⟩
theorem take_snoc_at (zs : List Int) (m : Nat) (h : m < zs.length) : zs.take (m + 1) = zs.take m ++ [iAt zs m] := by
  rw [List.take_succ_eq_append_getElem h]
  simp [iAt, h]
theorem Two.put1 {w : World} {b : Nat} {x y : Value} (h : Two w b x y) (u : Value) : Two (w.setCell ⟨b, 1, none⟩ u) b x u := by
  have h0 := h.c0
  have h1 := h.c1
  have h2 := h.z0
  have h3 := h.z1
  refine ⟨?_, ?_, ?_, ?_⟩ <;> simp [go_sem, h0, h1, h2, h3]
theorem Two.put0 {w : World} {b : Nat} {x y : Value} (h : Two w b x y) (u : Value) : Two (w.setCell ⟨b, 0, none⟩ u) b u y := by
  have h0 := h.c0
  have h1 := h.c1
  have h2 := h.z0
  have h3 := h.z1
  refine ⟨?_, ?_, ?_, ?_⟩ <;> simp [go_sem, h0, h1, h2, h3]
/-- A number more: what stays. -/
theorem mrgEnd {w2 w3 w6 w8 : World} {wg vt nv : Value} {n m : Nat} {xs ys : List Value} {o : Obj} (T6 : Two w6 w3.heap.size wg vt) (HR : w6.ownsRow (w2.heap.size + 1) 62 2 wg n xs) (HN : w6.ownsRow (w3.heap.size + 1) 2 1 nv m ys)
    (S : Rst 62 w3.heap.size w3 w6) (B : Below w2.heap.size w2 w6) (hs : w2.heap.size ≤ w3.heap.size) (hg8 : (w6.alloc o).grownBy w8 nv.ownBlock) :
    Two w8 w3.heap.size wg vt ∧ w8.ownsRow (w2.heap.size + 1) 62 2 wg n xs ∧ Hid (Rst 62 w3.heap.size w3 w8) ∧ Below w2.heap.size w2 w8 := by
  have sw := B.size
  have ng := own_block_ge HN
  have A6 : Below w6.heap.size w6 (w6.alloc o) := by (repeat (first | exact Below.refl _ _ | refine Below.setCell ?_ (by first | (simp; done) | (simp; omega) | omega) _ | refine belowN ?_ _ | refine Below.drew ?_ | refine Below.alloc ?_ (by first | (simp; done) | (simp; omega) | omega) _ | refine Below.trans ?_ (Below.mono (by assumption) (by first | (simp; done) | (simp; omega) | omega))))
  have HN' := ownsRow_keep HN A6
  refine ⟨(T6.alloc o).grown hg8 (fun e => by have := ng _ e.symm; omega), World.ownsRow.kept (ownsRow_keep HR A6) hg8 (rows_apart HR HN (by decide)), Lib.hid ((S.below A6).grow2 HN' (by omega) hg8), ?_⟩
  exact Below.grown (B.alloc (by omega) o) hg8 (by first | (simp; done) | (simp; omega) | omega) (fun j hj => by have := ng j hj; omega)

set_option maxRecDepth 100000 in
set_option maxHeartbeats 4000000 in
set_option linter.unusedSimpArgs false in
theorem specMergeSets_any (ga ta gb tb : Value) (A B : Set_) (w : World) (hA : SetIn w ga ta A) (hB : SetIn w gb tb B) (sola : ∃ ad n cap, ga = .slice (some ad) n cap) (oka : A.ok) (okb : B.ok) (sa : A.small) (sb : B.small) :
    Calls Try.prog 8 #[.agg #[ga, ta], .agg #[gb, tb]] w fun e w' => ShowPost w (meS A B) (meC A B) e w' ∧ Below w.heap.size w w' := by
  have HA := Lib.hid hA
  have HB := Lib.hid hB
  have hga := sa.gl
  have hgb := sb.gl
  have hta := sa.tl
  have htb := sb.tl
  clear hA hB
  have X0 := Lib.hid ((Two.new w ga ta 30 rfl).alloc (.cells #[gb, tb] 30))
  have X1 := Lib.hid (X0.out.alloc (.cells #[.slice none 0 0, .slice none 0 0] 30))
  have Y1 := Lib.hid ((Two.new (w.alloc (.cells #[ga, ta] 30)) gb tb 30 (n := w.heap.size + 1) (by simp)).alloc (.cells #[.slice none 0 0, .slice none 0 0] 30))
  have Z1 := Lib.hid (Two.new ((w.alloc (.cells #[ga, ta] 30)).alloc (.cells #[gb, tb] 30)) (.slice none 0 0) (.slice none 0 0) 30 (n := w.heap.size + 1 + 1) (by simp))
  clear X0
  go_enter Try.func8, Try.ntmps8
  go_wp2_with fail
  refine (l02Ok_any w.heap.size ga ta A _ ⟨X1.out.c0, X1.out.c1⟩ (HA.out.below (by (repeat (first | exact Below.refl _ _ | refine Below.setCell ?_ (by first | (simp; done) | (simp; omega) | omega) _ | refine belowN ?_ _ | refine Below.drew ?_ | refine Below.alloc ?_ (by first | (simp; done) | (simp; omega) | omega) _ | refine Below.trans ?_ (Below.mono (by assumption) (by first | (simp; done) | (simp; omega) | omega)))))) oka sa).mono ?_
  rintro e w1 ⟨rfl, hb1⟩
  have B1 : Below w.heap.size w w1 := by (repeat (first | exact Below.refl _ _ | refine Below.setCell ?_ (by first | (simp; done) | (simp; omega) | omega) _ | refine belowN ?_ _ | refine Below.drew ?_ | refine Below.alloc ?_ (by first | (simp; done) | (simp; omega) | omega) _ | refine Below.trans ?_ (Below.mono (by assumption) (by first | (simp; done) | (simp; omega) | omega))))
  have z1 := B1.size
  have X2 := Lib.hid (X1.out.below hb1)
  have Y2 := Lib.hid (Y1.out.below hb1)
  have Z2 := Lib.hid (Z1.out.below hb1)
  have l1 := Z2.out.lt
  obtain ⟨x0, x1, xz0, xz1⟩ := Z2.out
  clear hb1 X1 Y1 Z1
  cases hv : validB A
  · have K := Lib.hid (show meC A B = 1 by unfold meC; rw [hv]; simp)
    go_wp2_with fail
    refine bodyPost_ret (v := .tuple #[.agg #[.slice none 0 0, .slice none 0 0], .int .i64 1]) ?_ rfl ⟨row_nil (meS_no K.out (by decide)) K.out.symm, by (repeat (first | exact Below.refl _ _ | refine Below.setCell ?_ (by first | (simp; done) | (simp; omega) | omega) _ | refine belowN ?_ _ | refine Below.drew ?_ | refine Below.alloc ?_ (by first | (simp; done) | (simp; omega) | omega) _ | refine Below.trans ?_ (Below.mono (by assumption) (by first | (simp; done) | (simp; omega) | omega))))⟩
    simp [results, Try.results8, go_sem, x0, x1, xz0, xz1]
  have VA := Lib.hid hv
  clear hv
  go_wp2_with fail
  refine (l02Ok_any (w.heap.size + 1) gb tb B _ ⟨Y2.out.c0, Y2.out.c1⟩ (HB.out.below B1) okb sb).mono ?_
  rintro e w2 ⟨rfl, hb2⟩
  have B2 : Below w.heap.size w w2 := by (repeat (first | exact Below.refl _ _ | refine Below.setCell ?_ (by first | (simp; done) | (simp; omega) | omega) _ | refine belowN ?_ _ | refine Below.drew ?_ | refine Below.alloc ?_ (by first | (simp; done) | (simp; omega) | omega) _ | refine Below.trans ?_ (Below.mono (by assumption) (by first | (simp; done) | (simp; omega) | omega))))
  have z2 := B2.size
  have X3 := Lib.hid (X2.out.below hb2)
  have Y3 := Lib.hid (Y2.out.below hb2)
  have Z3 := Lib.hid (Z2.out.below hb2)
  have l2 := Z3.out.lt
  clear x0 x1 xz0 xz1 hb2 X2 Y2 Z2
  obtain ⟨x0, x1, xz0, xz1⟩ := Z3.out
  cases hv : validB B
  · have K := Lib.hid (show meC A B = 1 by unfold meC; rw [hv]; simp)
    go_wp2_with fail
    refine bodyPost_ret (v := .tuple #[.agg #[.slice none 0 0, .slice none 0 0], .int .i64 1]) ?_ rfl ⟨row_nil (meS_no K.out (by decide)) K.out.symm, by (repeat (first | exact Below.refl _ _ | refine Below.setCell ?_ (by first | (simp; done) | (simp; omega) | omega) _ | refine belowN ?_ _ | refine Below.drew ?_ | refine Below.alloc ?_ (by first | (simp; done) | (simp; omega) | omega) _ | refine Below.trans ?_ (Below.mono (by assumption) (by first | (simp; done) | (simp; omega) | omega))))⟩
    simp [results, Try.results8, go_sem, x0, x1, xz0, xz1]
  have VB := Lib.hid hv
  clear hv
  have PA := Lib.hid (validB_iff.1 VA.out)
  have PB := Lib.hid (validB_iff.1 VB.out)
  have a200 := PA.out.g.len
  have b200 := PB.out.g.len
  have a160 := PA.out.t.len
  have b160 := PB.out.t.len
  go_wp2_with fail
  refine (l02Own_row w.heap.size ga ta A _ ⟨X3.out.c0, X3.out.c1⟩ (HA.out.below B2) sola PA.out sa).mono ?_
  rintro e w3 ⟨⟨vg, vt, mm, rfl, hm1, hm2, hrg, hbt⟩, hb3⟩
  have B3 : Below w.heap.size w w3 := by (repeat (first | exact Below.refl _ _ | refine Below.setCell ?_ (by first | (simp; done) | (simp; omega) | omega) _ | refine belowN ?_ _ | refine Below.drew ?_ | refine Below.alloc ?_ (by first | (simp; done) | (simp; omega) | omega) _ | refine Below.trans ?_ (Below.mono (by assumption) (by first | (simp; done) | (simp; omega) | omega))))
  have z3 := B3.size
  have hs3 := hb3.size
  have RG := Lib.hid hrg
  have BT := Lib.hid hbt
  have nb3 := Lib.hid (own_block_lt hrg)
  clear x0 x1 xz0 xz1 hrg hbt
  obtain ⟨ga', gc', rfl⟩ := own_len RG.out
  obtain ⟨ta', tc', rfl⟩ := built_len BT.out
  have gl := RG.out.1
  obtain ⟨i0, hi, hz0, hz1, hz2⟩ := info_parts info_glue
  obtain ⟨j0, hj, hy0, hy1, hy2⟩ := info_parts info_i64
  clear sola
  obtain ⟨ao, acap, rfl, hlA, hmA, hcA⟩ := HA.out.g
  obtain ⟨bo, bcap, rfl, hlB, hmB, hcB⟩ := HB.out.g
  unfold maxLen at hmA hmB
  have HCA := Lib.hid hcA
  have HCB := Lib.hid hcB
  clear hcA hcB
  have HAG := Lib.hid HA.out.g
  have T4 := Lib.hid (Two.new w3 (.slice ga' A.gs.length gc') (.slice ta' A.ts.length tc') 30 rfl)
  go_wp2_with fail
  go_loopw [7, 8] (fun nv i wr => ∃ (k : Nat) (nu wg : Value), k ≤ B.gs.length ∧ nu = nv ∧ i = .int .i64 k ∧ Hid (gAgree A.gs B.gs k) ∧ Two wr w3.heap.size wg (.slice ta' A.ts.length tc') ∧ Hid (wg.ownBlock ≠ some w3.heap.size) ∧ wr.ownsRow (w2.heap.size + 1) 62 2 wg (mG A.gs B.gs k).length (gCells (mG A.gs B.gs k)) ∧ wr.ownsRow (w3.heap.size + 1) 2 1 nu (mNums A.gs B.gs k).length ((mNums A.gs B.gs k).map (Value.int .i64)) ∧ Hid (Rst 62 w3.heap.size w3 wr) ∧ Below w2.heap.size w2 wr) (fun _ i _ => B.gs.length - (intOf i).toNat)
  case atStart =>
    refine ⟨0, _, _, by omega, rfl, rfl, Lib.hid (fun j hj => absurd hj (Nat.not_lt_zero j)), T4.out.alloc _, Lib.hid (fun e => by have := nb3.out _ e; omega), ?_, ?_, Lib.hid ((Rst.refl _ _ w3).below (by (repeat (first | exact Below.refl _ _ | refine Below.setCell ?_ (by first | (simp; done) | (simp; omega) | omega) _ | refine belowN ?_ _ | refine Below.drew ?_ | refine Below.alloc ?_ (by first | (simp; done) | (simp; omega) | omega) _ | refine Below.trans ?_ (Below.mono (by assumption) (by first | (simp; done) | (simp; omega) | omega)))))), hb3.trans (Below.mono (by (repeat (first | exact Below.refl _ _ | refine Below.setCell ?_ (by first | (simp; done) | (simp; omega) | omega) _ | refine belowN ?_ _ | refine Below.drew ?_ | refine Below.alloc ?_ (by first | (simp; done) | (simp; omega) | omega) _ | refine Below.trans ?_ (Below.mono (by assumption) (by first | (simp; done) | (simp; omega) | omega))))) hs3)⟩
    · have := ownsRow_keep RG.out (w1 := ((w3.alloc (.cells #[.slice ga' A.gs.length gc', .slice ta' A.ts.length tc'] 30)).alloc (.cells #[.int .i64 0] 2))) (by (repeat (first | exact Below.refl _ _ | refine Below.setCell ?_ (by first | (simp; done) | (simp; omega) | omega) _ | refine belowN ?_ _ | refine Below.drew ?_ | refine Below.alloc ?_ (by first | (simp; done) | (simp; omega) | omega) _ | refine Below.trans ?_ (Below.mono (by assumption) (by first | (simp; done) | (simp; omega) | omega)))))
      simpa [mG, mNew] using this
    · have h1 := World.ownsRow_lit (base := w3.heap.size + 1) (size := 1) (e := 2) (w3.alloc (.cells #[.slice ga' A.gs.length gc', .slice ta' A.ts.length tc'] 30)) #[.int .i64 0] 1 (by simp) (by unfold maxLen; omega) rfl
      simpa [mNums] using h1
  case round =>
    clear T4 hb3 nb3 gl
    obtain ⟨k, nu, wg, hk, rfl, rfl, hag, hT, hgn, hrg, hrn, hrst, hbw⟩ := hrel
    have sw := hbw.size
    have BW : Below w.heap.size w wr := B2.trans (hbw.mono (by omega))
    have HRG := Lib.hid hrg
    have HRN := Lib.hid hrn
    have HT := Lib.hid hT
    have hGl := mNew_len A.gs B.gs k
    have hGe : A.gs.length + (mNew A.gs B.gs k).length = (mG A.gs B.gs k).length := by simp [mG]
    have HNL := Lib.hid (mNums_len A.gs B.gs k)
    have hNl : (mNums A.gs B.gs k).length ≤ k + 1 := Nat.le_of_eq HNL.out
    have XW := Lib.hid (X3.out.below hbw)
    have YW := Lib.hid (Y3.out.below hbw)
    obtain ⟨y0, y1, -, -⟩ := YW.out
    obtain ⟨gx, gxc, rfl⟩ := own_len hrg
    obtain ⟨nx, nxc, rfl⟩ := own_len hrn
    have hlT := hT.lt
    clear hrg hrn hT
    by_cases hlt : k < B.gs.length
    · obtain ⟨b, off, rfl, H1⟩ := HCB.out (by omega)
      have c0 := cell_below BW (H1 k 0 hlt (by omega))
      have c1 := cell_below BW (H1 k 1 hlt (by omega))
      simp at c0 c1
      have hbl : b < w.heap.size := World.block_lt_of_cell? w _ (H1 k 0 hlt (by omega))
      go_wp2_with fail
      refine (l02Glue_any w.heap.size _ _ A.gs (gN B.gs k) _ ⟨XW.out.c0, XW.out.c1⟩ (HAG.out.below BW) (by omega)).mono ?_
      rintro e w4 ⟨rfl, hb4⟩
      have B4 : Below w2.heap.size w2 w4 := hbw.trans (hb4.mono sw)
      have z4 := hb4.size
      have HR4 := Lib.hid (ownsRow_keep HRG.out hb4)
      have HN4 := Lib.hid (ownsRow_keep HRN.out hb4)
      have T4 := Lib.hid (HT.out.below hb4)
      have S4 := Lib.hid (hrst.out.below hb4)
      have c0 := cell_below hb4 c0
      have c1 := cell_below hb4 c1
      have y0 := cell_below hb4 y0
      clear hb4 HRG HRN HT hrst y1 H1 XW YW BW
      rcases gFind_of (gs := A.gs) (gN B.gs k) with ⟨hf, hno⟩ | ⟨p, hp, hf, hnm, -⟩
      · have HF := Lib.hid hf
        rw [hf]
        clear hf hno
        go_wp2_with fail
        refine wp_region_held_drew (S := (fun w' => w'.cell? ⟨w.heap.size + 1, 0, none⟩ = some (.slice (some ⟨b, off, none⟩) B.gs.length bcap))) (by kernel_rfl) ?_ (fun hHeld => ?_)
        · (try dsimp only)
          (((try go_split_ands); (try dsimp only); (repeat' apply And.intro)) <;> (repeat (first | with_reducible assumption | ((with_reducible refine cnew0 ?_); simp; done) | ((with_reducible refine cnew1 ?_); simp; done) | (with_reducible refine akeep ?_) | (with_reducible refine dkeep ?_) | ((with_reducible refine skeep ?_ ?_); rotate_left; (first | ((try dsimp only); omega) | (simp; done) | (simp; omega))) | (with_reducible refine bkeep hb3 ?_))))
        refine wpAnyH_take (i := 0) (oi := ⟨_, _, _, _, _, _⟩) (v := ?_) rfl (by kernel_rfl) (by kernel_rfl) (by kernel_rfl) (fun _ _ _ h => h) (Or.inl ⟨by rfl, ?_⟩) (by assumption) ?_
        rotate_left
        · (intro w hSw; (try dsimp only at hSw); go_simp; (try with_reducible rfl))
        (try simp only [Act.put, List.setIfInBounds_toArray, List.set_cons_zero, List.set_cons_succ])
        refine wpAnyH_take (i := 1) (oi := ⟨_, _, _, _, _, _⟩) (v := ?_) rfl (by kernel_rfl) (by kernel_rfl) (by kernel_rfl) (fun _ _ _ h => h) (Or.inl ⟨by rfl, ?_⟩) (by assumption) ?_
        rotate_left
        · (intro w hSw; (try dsimp only at hSw); go_simp; (try with_reducible rfl))
        (try simp only [Act.put, List.setIfInBounds_toArray, List.set_cons_zero, List.set_cons_succ])
        refine wpAnyH_take (i := 2) (oi := ⟨_, _, _, _, _, _⟩) (v := ?_) rfl (by kernel_rfl) (by kernel_rfl) (by kernel_rfl) (fun _ _ _ h => h) (Or.inl ⟨by rfl, ?_⟩) (by assumption) ?_
        rotate_left
        · (intro w hSw; (try dsimp only at hSw); go_simp; (try with_reducible rfl))
        (try simp only [Act.put, List.setIfInBounds_toArray, List.set_cons_zero, List.set_cons_succ])
        refine wpAnyH_take (i := 3) (oi := ⟨_, _, _, _, _, _⟩) (v := undef) rfl (by kernel_rfl) (by kernel_rfl) (by kernel_rfl) (fun _ _ _ h => h) (Or.inr ⟨by rfl, rfl⟩) (by assumption) ?_
        (try simp only [Act.put, List.setIfInBounds_toArray, List.set_cons_zero, List.set_cons_succ])
        refine wpAnyH_take (i := 4) (oi := ⟨_, _, _, _, _, _⟩) (v := undef) rfl (by kernel_rfl) (by kernel_rfl) (by kernel_rfl) (fun _ _ _ h => h) (Or.inr ⟨by rfl, rfl⟩) (by assumption) ?_
        (try simp only [Act.put, List.setIfInBounds_toArray, List.set_cons_zero, List.set_cons_succ])
        refine wpAnyH_take (i := 5) (oi := ⟨_, _, _, _, _, _⟩) (v := undef) rfl (by kernel_rfl) (by kernel_rfl) (by kernel_rfl) (fun _ _ _ h => h) (Or.inr ⟨by rfl, rfl⟩) (by assumption) ?_
        (try simp only [Act.put, List.setIfInBounds_toArray, List.set_cons_zero, List.set_cons_succ])
        refine wpAnyH_take (i := 6) (oi := ⟨_, _, _, _, _, _⟩) (v := undef) rfl (by kernel_rfl) (by kernel_rfl) (by kernel_rfl) (fun _ _ _ h => h) (Or.inr ⟨by rfl, rfl⟩) (by assumption) ?_
        (try simp only [Act.put, List.setIfInBounds_toArray, List.set_cons_zero, List.set_cons_succ])
        refine wpAnyH_take (i := 7) (oi := ⟨_, _, _, _, _, _⟩) (v := undef) rfl (by kernel_rfl) (by kernel_rfl) (by kernel_rfl) (fun _ _ _ h => h) (Or.inr ⟨by rfl, rfl⟩) (by assumption) ?_
        (try simp only [Act.put, List.setIfInBounds_toArray, List.set_cons_zero, List.set_cons_succ])
        refine wpAnyH_take (i := 8) (oi := ⟨_, _, _, _, _, _⟩) (v := undef) rfl (by kernel_rfl) (by kernel_rfl) (by kernel_rfl) (fun _ _ _ h => h) (Or.inr ⟨by rfl, rfl⟩) (by assumption) ?_
        (try simp only [Act.put, List.setIfInBounds_toArray, List.set_cons_zero, List.set_cons_succ])
        refine wpAnyH_take (i := 9) (oi := ⟨_, _, _, _, _, _⟩) (v := undef) rfl (by kernel_rfl) (by kernel_rfl) (by kernel_rfl) (fun _ _ _ h => h) (Or.inr ⟨by rfl, rfl⟩) (by assumption) ?_
        (try simp only [Act.put, List.setIfInBounds_toArray, List.set_cons_zero, List.set_cons_succ])
        refine wpAnyH_take (i := 10) (oi := ⟨_, _, _, _, _, _⟩) (v := undef) rfl (by kernel_rfl) (by kernel_rfl) (by kernel_rfl) (fun _ _ _ h => h) (Or.inr ⟨by rfl, rfl⟩) (by assumption) ?_
        (try simp only [Act.put, List.setIfInBounds_toArray, List.set_cons_zero, List.set_cons_succ])
        refine wpAnyH_take (i := 11) (oi := ⟨_, _, _, _, _, _⟩) (v := undef) rfl (by kernel_rfl) (by kernel_rfl) (by kernel_rfl) (fun _ _ _ h => h) (Or.inr ⟨by rfl, rfl⟩) (by assumption) ?_
        (try simp only [Act.put, List.setIfInBounds_toArray, List.set_cons_zero, List.set_cons_succ])
        refine wpAnyH_take (i := 12) (oi := ⟨_, _, _, _, _, _⟩) (v := undef) rfl (by kernel_rfl) (by kernel_rfl) (by kernel_rfl) (fun _ _ _ h => h) (Or.inr ⟨by rfl, rfl⟩) (by assumption) ?_
        (try simp only [Act.put, List.setIfInBounds_toArray, List.set_cons_zero, List.set_cons_succ])
        refine wpAnyH_take (i := 13) (oi := ⟨_, _, _, _, _, _⟩) (v := undef) rfl (by kernel_rfl) (by kernel_rfl) (by kernel_rfl) (fun _ _ _ h => h) (Or.inr ⟨by rfl, rfl⟩) (by assumption) ?_
        (try simp only [Act.put, List.setIfInBounds_toArray, List.set_cons_zero, List.set_cons_succ])
        refine wpAnyH_take (i := 14) (oi := ⟨_, _, _, _, _, _⟩) (v := undef) rfl (by kernel_rfl) (by kernel_rfl) (by kernel_rfl) (fun _ _ _ h => h) (Or.inr ⟨by rfl, rfl⟩) (by assumption) ?_
        (try simp only [Act.put, List.setIfInBounds_toArray, List.set_cons_zero, List.set_cons_succ])
        refine wpAnyH_take (i := 15) (oi := ⟨_, _, _, _, _, _⟩) (v := undef) rfl (by kernel_rfl) (by kernel_rfl) (by kernel_rfl) (fun _ _ _ h => h) (Or.inr ⟨by rfl, rfl⟩) (by assumption) ?_
        (try simp only [Act.put, List.setIfInBounds_toArray, List.set_cons_zero, List.set_cons_succ])
        refine wpAnyH_take (i := 16) (oi := ⟨_, _, _, _, _, _⟩) (v := undef) rfl (by kernel_rfl) (by kernel_rfl) (by kernel_rfl) (fun _ _ _ h => h) (Or.inr ⟨by rfl, rfl⟩) (by assumption) ?_
        (try simp only [Act.put, List.setIfInBounds_toArray, List.set_cons_zero, List.set_cons_succ])
        refine wpAnyH_take (i := 17) (oi := ⟨_, _, _, _, _, _⟩) (v := ?_) rfl (by kernel_rfl) (by kernel_rfl) (by kernel_rfl) (fun _ _ _ h => h) (Or.inl ⟨by rfl, ?_⟩) (by assumption) ?_
        rotate_left
        · (intro w hSw; (try dsimp only at hSw); go_simp; (try with_reducible rfl))
        (try simp only [Act.put, List.setIfInBounds_toArray, List.set_cons_zero, List.set_cons_succ])
        refine wpAnyH_done (by kernel_rfl) ?_ _
        go_wp2_with fail
        have e0 := T4.out.c0
        have hlT4 := T4.out.lt
        have hneT : some w3.heap.size ≠ (Value.slice gx (mG A.gs B.gs k).length gxc).ownBlock := fun e => hgn.out e.symm
        refine wp_region_held_drew (S := (fun w' => w'.cell? ⟨w.heap.size + 1, 0, none⟩ = some (.slice (some ⟨b, off, none⟩) B.gs.length bcap) ∧ w'.cell? ⟨b, off + k * 2, none⟩ = some (.string (gN B.gs k)) ∧ w'.cell? ⟨b, off + k * 2 + 1, none⟩ = some (.int .i64 (gS B.gs k)))) (by kernel_rfl) ?_ (fun hHeld => ?_)
        · (try dsimp only)
          (((try go_split_ands); (try dsimp only); (repeat' apply And.intro)) <;> (repeat (first | with_reducible assumption | ((with_reducible refine cnew0 ?_); simp; done) | ((with_reducible refine cnew1 ?_); simp; done) | (with_reducible refine akeep ?_) | (with_reducible refine dkeep ?_) | ((with_reducible refine skeep ?_ ?_); rotate_left; (first | ((try dsimp only); omega) | (simp; done) | (simp; omega))) | (with_reducible refine bkeep hb3 ?_))))
        refine wpAnyH_take (i := 0) (oi := ⟨_, _, _, _, _, _⟩) (v := ?_) rfl (by kernel_rfl) (by kernel_rfl) (by kernel_rfl) (fun _ _ _ h => h) (Or.inl ⟨by rfl, ?_⟩) (by assumption) ?_
        rotate_left
        · (intro w hSw; (try dsimp only at hSw); go_simp; (try with_reducible rfl))
        (try simp only [Act.put, List.setIfInBounds_toArray, List.set_cons_zero, List.set_cons_succ])
        refine wpAnyH_take (i := 2) (oi := ⟨_, _, _, _, _, _⟩) (v := ?_) rfl (by kernel_rfl) (by kernel_rfl) (by kernel_rfl) (fun _ _ _ h => h) (Or.inl ⟨by rfl, ?_⟩) (by assumption) ?_
        rotate_left
        · (intro w hSw; (try dsimp only at hSw); go_simp; (try with_reducible rfl))
        (try simp only [Act.put, List.setIfInBounds_toArray, List.set_cons_zero, List.set_cons_succ])
        refine wpAnyH_take (i := 3) (oi := ⟨_, _, _, _, _, _⟩) (v := ?_) rfl (by kernel_rfl) (by kernel_rfl) (by kernel_rfl) (fun _ _ _ h => h) (Or.inl ⟨by rfl, ?_⟩) (by assumption) ?_
        rotate_left
        · (intro w hSw; (try dsimp only at hSw); go_simp; (try with_reducible rfl))
        (try simp only [Act.put, List.setIfInBounds_toArray, List.set_cons_zero, List.set_cons_succ])
        refine wpAnyH_take (i := 4) (oi := ⟨_, _, _, _, _, _⟩) (v := ?_) rfl (by kernel_rfl) (by kernel_rfl) (by kernel_rfl) (fun _ _ _ h => h) (Or.inl ⟨by rfl, ?_⟩) (by assumption) ?_
        rotate_left
        · (intro w hSw; (try dsimp only at hSw); go_simp; (try with_reducible rfl))
        (try simp only [Act.put, List.setIfInBounds_toArray, List.set_cons_zero, List.set_cons_succ])
        refine wpAnyH_take (i := 5) (oi := ⟨_, _, _, _, _, _⟩) (v := ?_) rfl (by kernel_rfl) (by kernel_rfl) (by kernel_rfl) (fun _ _ _ h => h) (Or.inl ⟨by rfl, ?_⟩) (by assumption) ?_
        rotate_left
        · (intro w hSw; (try dsimp only at hSw); go_simp; (try with_reducible rfl))
        (try simp only [Act.put, List.setIfInBounds_toArray, List.set_cons_zero, List.set_cons_succ])
        refine wpAnyH_take (i := 6) (oi := ⟨_, _, _, _, _, _⟩) (v := ?_) rfl (by kernel_rfl) (by kernel_rfl) (by kernel_rfl) (fun _ _ _ h => h) (Or.inl ⟨by rfl, ?_⟩) (by assumption) ?_
        rotate_left
        · (intro w hSw; (try dsimp only at hSw); go_simp; (try with_reducible rfl))
        (try simp only [Act.put, List.setIfInBounds_toArray, List.set_cons_zero, List.set_cons_succ])
        refine wpAnyH_ready (rs := [1, 7]) (by kernel_rfl) (by simp) ?_
        refine AllReadyH.cons (o := ⟨_, _, _, _, _, _⟩) rfl (fun K hK => ?_) (AllReadyH.cons (o := ⟨_, _, _, _, _, _⟩) rfl (fun K hK => ?_) AllReadyH.nil)
        focus
          go_simp
          refine hK.out _ _ ?_ (fun hHeld => ?_)
          · (try dsimp only)
            (((try go_split_ands); (try dsimp only); (repeat' apply And.intro)) <;> (repeat (first | with_reducible assumption | ((with_reducible refine cnew0 ?_); simp; done) | ((with_reducible refine cnew1 ?_); simp; done) | (with_reducible refine akeep ?_) | (with_reducible refine dkeep ?_) | ((with_reducible refine skeep ?_ ?_); rotate_left; (first | ((try dsimp only); omega) | (simp; done) | (simp; omega))) | (with_reducible refine bkeep hb3 ?_))))
          clear hK K
          (try simp only [Act.put, List.setIfInBounds_toArray, List.set_cons_zero, List.set_cons_succ])
          refine wpAnyH_ready (rs := [7]) (by kernel_rfl) (by simp) ?_
          refine AllReadyH.cons (o := ⟨_, _, _, _, _, _⟩) rfl (fun K hK => ?_) AllReadyH.nil
          go_simp
          refine hK.out _ _ ?_ (fun hHeld => ?_)
          · (try dsimp only)
            (((try go_split_ands); (try dsimp only); (repeat' apply And.intro)) <;> (repeat (first | with_reducible assumption | ((with_reducible refine cnew0 ?_); simp; done) | ((with_reducible refine cnew1 ?_); simp; done) | (with_reducible refine akeep ?_) | (with_reducible refine dkeep ?_) | ((with_reducible refine skeep ?_ ?_); rotate_left; (first | ((try dsimp only); omega) | (simp; done) | (simp; omega))) | (with_reducible refine bkeep hb3 ?_))))
          clear hK K
          (try simp only [Act.put, List.setIfInBounds_toArray, List.set_cons_zero, List.set_cons_succ])
          refine wpAnyH_ready (rs := [8]) (by kernel_rfl) (by simp) ?_
          refine AllReadyH.cons (o := ⟨_, _, _, _, _, _⟩) rfl (fun K hK => ?_) AllReadyH.nil
          (refine step_append_lies _ (by rfl) _ _ _ (by rfl) (w2.heap.size + 1) 62 i0 (.agg #[.string ⟨#[]⟩, .int .i64 0]) 2 24 Try.underlying27 hi hz0 hz1 hz2 rfl (by decide) (.slice gx (mG A.gs B.gs k).length gxc) _ _ (by rfl) (ownsRow_keep HR4.out (show Below w4.heap.size w4 _ by (repeat (first | exact Below.refl _ _ | refine Below.setCell ?_ (by first | (simp; done) | (simp; omega) | omega) _ | refine belowN ?_ _ | refine Below.drew ?_ | refine Below.alloc ?_ (by first | (simp; done) | (simp; omega) | omega) _ | refine Below.trans ?_ (Below.mono (by assumption) (by first | (simp; done) | (simp; omega) | omega)))))) ⟨w4.heap.size, 0, none⟩ 1 1 [.string (gN B.gs k), .int .i64 (gS B.gs k)] (by rfl) (by rfl) (World.news_of_block (cs := #[.string (gN B.gs k), .int .i64 (gS B.gs k)]) (t := 62) (fr := (0, 0)) (heap_alloc_new w4 _)) (glue_cells_one _ _) (by omega) (maxLen_of (by omega)) (by omega) (by first | (simp; done) | (simp; omega) | omega) (w4.heap.size + 1) (by simp) ?_; intro gg gcap w5 hown5 hgrow5 hat5 hlt5; have hb5 : Below w2.heap.size w2 w5 := Below.grown (show Below w2.heap.size w2 (w4.alloc (.cells #[.string (gN B.gs k), .int .i64 (gS B.gs k)] 62)) from B4.alloc (by omega) _).drew.drew hgrow5 (by first | (simp; done) | (simp; omega) | omega) (fun j hj => by have := own_block_ge HR4.out j hj; omega); have c0 := gkeep hgrow5 (dkeep (dkeep (akeep c0))) (fun e => by have := own_block_ge HR4.out _ e.symm; omega); have c1 := gkeep hgrow5 (dkeep (dkeep (akeep c1))) (fun e => by have := own_block_ge HR4.out _ e.symm; omega); have y5 := cell_below hb5 Y3.out.c0; have T5 := Two.grown ((T4.out.alloc (.cells #[.string (gN B.gs k), .int .i64 (gS B.gs k)] 62)).drew.drew) hgrow5 hneT; have e5 := T5.c0; have f5 := T5.z0; have l5 := T5.lt)
          refine hK.out _ _ ?_ (fun hHeld => ?_)
          · (try dsimp only)
            (((try go_split_ands); (try dsimp only); (repeat' apply And.intro)) <;> (repeat (first | with_reducible assumption | ((with_reducible refine cnew0 ?_); simp; done) | ((with_reducible refine cnew1 ?_); simp; done) | (with_reducible refine akeep ?_) | (with_reducible refine dkeep ?_) | ((with_reducible refine skeep ?_ ?_); rotate_left; (first | ((try dsimp only); omega) | (simp; done) | (simp; omega))) | (with_reducible refine bkeep hb3 ?_))))
          clear hK K
          (try simp only [Act.put, List.setIfInBounds_toArray, List.set_cons_zero, List.set_cons_succ])
          refine wpAnyH_take (i := 9) (oi := ⟨_, _, _, _, _, _⟩) (v := ?_) rfl (by kernel_rfl) (by kernel_rfl) (by kernel_rfl) (fun _ _ _ h => h) (Or.inl ⟨by rfl, ?_⟩) (by assumption) ?_
          rotate_left
          · (intro w hSw; (try dsimp only at hSw); go_simp; (try with_reducible rfl))
          (try simp only [Act.put, List.setIfInBounds_toArray, List.set_cons_zero, List.set_cons_succ])
          refine wpAnyH_ready (rs := [10]) (by kernel_rfl) (by simp) ?_
          refine AllReadyH.cons (o := ⟨_, _, _, _, _, _⟩) rfl (fun K hK => ?_) AllReadyH.nil
          go_simp
          refine hK.out _ _ ?_ (fun hHeld => ?_)
          · (try dsimp only)
            (((try go_split_ands); (try dsimp only); (repeat' apply And.intro)) <;> (repeat (first | with_reducible assumption | ((with_reducible refine cnew0 ?_); simp; done) | ((with_reducible refine cnew1 ?_); simp; done) | (with_reducible refine akeep ?_) | (with_reducible refine dkeep ?_) | ((with_reducible refine skeep ?_ ?_); rotate_left; (first | ((try dsimp only); omega) | (simp; done) | (simp; omega))) | (with_reducible refine bkeep hb3 ?_))))
          clear hK K
          (try simp only [Act.put, List.setIfInBounds_toArray, List.set_cons_zero, List.set_cons_succ])
          refine wpAnyH_done (by kernel_rfl) ?_ _
        rotate_left
        focus
          go_simp
          refine hK.out _ _ ?_ (fun hHeld => ?_)
          · (try dsimp only)
            (((try go_split_ands); (try dsimp only); (repeat' apply And.intro)) <;> (repeat (first | with_reducible assumption | ((with_reducible refine cnew0 ?_); simp; done) | ((with_reducible refine cnew1 ?_); simp; done) | (with_reducible refine akeep ?_) | (with_reducible refine dkeep ?_) | ((with_reducible refine skeep ?_ ?_); rotate_left; (first | ((try dsimp only); omega) | (simp; done) | (simp; omega))) | (with_reducible refine bkeep hb3 ?_))))
          clear hK K
          (try simp only [Act.put, List.setIfInBounds_toArray, List.set_cons_zero, List.set_cons_succ])
          refine wpAnyH_ready (rs := [1]) (by kernel_rfl) (by simp) ?_
          refine AllReadyH.cons (o := ⟨_, _, _, _, _, _⟩) rfl (fun K hK => ?_) AllReadyH.nil
          go_simp
          refine hK.out _ _ ?_ (fun hHeld => ?_)
          · (try dsimp only)
            (((try go_split_ands); (try dsimp only); (repeat' apply And.intro)) <;> (repeat (first | with_reducible assumption | ((with_reducible refine cnew0 ?_); simp; done) | ((with_reducible refine cnew1 ?_); simp; done) | (with_reducible refine akeep ?_) | (with_reducible refine dkeep ?_) | ((with_reducible refine skeep ?_ ?_); rotate_left; (first | ((try dsimp only); omega) | (simp; done) | (simp; omega))) | (with_reducible refine bkeep hb3 ?_))))
          clear hK K
          (try simp only [Act.put, List.setIfInBounds_toArray, List.set_cons_zero, List.set_cons_succ])
          refine wpAnyH_ready (rs := [8]) (by kernel_rfl) (by simp) ?_
          refine AllReadyH.cons (o := ⟨_, _, _, _, _, _⟩) rfl (fun K hK => ?_) AllReadyH.nil
          (refine step_append_lies _ (by rfl) _ _ _ (by rfl) (w2.heap.size + 1) 62 i0 (.agg #[.string ⟨#[]⟩, .int .i64 0]) 2 24 Try.underlying27 hi hz0 hz1 hz2 rfl (by decide) (.slice gx (mG A.gs B.gs k).length gxc) _ _ (by rfl) (ownsRow_keep HR4.out (show Below w4.heap.size w4 _ by (repeat (first | exact Below.refl _ _ | refine Below.setCell ?_ (by first | (simp; done) | (simp; omega) | omega) _ | refine belowN ?_ _ | refine Below.drew ?_ | refine Below.alloc ?_ (by first | (simp; done) | (simp; omega) | omega) _ | refine Below.trans ?_ (Below.mono (by assumption) (by first | (simp; done) | (simp; omega) | omega)))))) ⟨w4.heap.size, 0, none⟩ 1 1 [.string (gN B.gs k), .int .i64 (gS B.gs k)] (by rfl) (by rfl) (World.news_of_block (cs := #[.string (gN B.gs k), .int .i64 (gS B.gs k)]) (t := 62) (fr := (0, 0)) (heap_alloc_new w4 _)) (glue_cells_one _ _) (by omega) (maxLen_of (by omega)) (by omega) (by first | (simp; done) | (simp; omega) | omega) (w4.heap.size + 1) (by simp) ?_; intro gg gcap w5 hown5 hgrow5 hat5 hlt5; have hb5 : Below w2.heap.size w2 w5 := Below.grown (show Below w2.heap.size w2 (w4.alloc (.cells #[.string (gN B.gs k), .int .i64 (gS B.gs k)] 62)) from B4.alloc (by omega) _).drew.drew hgrow5 (by first | (simp; done) | (simp; omega) | omega) (fun j hj => by have := own_block_ge HR4.out j hj; omega); have c0 := gkeep hgrow5 (dkeep (dkeep (akeep c0))) (fun e => by have := own_block_ge HR4.out _ e.symm; omega); have c1 := gkeep hgrow5 (dkeep (dkeep (akeep c1))) (fun e => by have := own_block_ge HR4.out _ e.symm; omega); have y5 := cell_below hb5 Y3.out.c0; have T5 := Two.grown ((T4.out.alloc (.cells #[.string (gN B.gs k), .int .i64 (gS B.gs k)] 62)).drew.drew) hgrow5 hneT; have e5 := T5.c0; have f5 := T5.z0; have l5 := T5.lt)
          refine hK.out _ _ ?_ (fun hHeld => ?_)
          · (try dsimp only)
            (((try go_split_ands); (try dsimp only); (repeat' apply And.intro)) <;> (repeat (first | with_reducible assumption | ((with_reducible refine cnew0 ?_); simp; done) | ((with_reducible refine cnew1 ?_); simp; done) | (with_reducible refine akeep ?_) | (with_reducible refine dkeep ?_) | ((with_reducible refine skeep ?_ ?_); rotate_left; (first | ((try dsimp only); omega) | (simp; done) | (simp; omega))) | (with_reducible refine bkeep hb3 ?_))))
          clear hK K
          (try simp only [Act.put, List.setIfInBounds_toArray, List.set_cons_zero, List.set_cons_succ])
          refine wpAnyH_take (i := 9) (oi := ⟨_, _, _, _, _, _⟩) (v := ?_) rfl (by kernel_rfl) (by kernel_rfl) (by kernel_rfl) (fun _ _ _ h => h) (Or.inl ⟨by rfl, ?_⟩) (by assumption) ?_
          rotate_left
          · (intro w hSw; (try dsimp only at hSw); go_simp; (try with_reducible rfl))
          (try simp only [Act.put, List.setIfInBounds_toArray, List.set_cons_zero, List.set_cons_succ])
          refine wpAnyH_ready (rs := [10]) (by kernel_rfl) (by simp) ?_
          refine AllReadyH.cons (o := ⟨_, _, _, _, _, _⟩) rfl (fun K hK => ?_) AllReadyH.nil
          go_simp
          refine hK.out _ _ ?_ (fun hHeld => ?_)
          · (try dsimp only)
            (((try go_split_ands); (try dsimp only); (repeat' apply And.intro)) <;> (repeat (first | with_reducible assumption | ((with_reducible refine cnew0 ?_); simp; done) | ((with_reducible refine cnew1 ?_); simp; done) | (with_reducible refine akeep ?_) | (with_reducible refine dkeep ?_) | ((with_reducible refine skeep ?_ ?_); rotate_left; (first | ((try dsimp only); omega) | (simp; done) | (simp; omega))) | (with_reducible refine bkeep hb3 ?_))))
          clear hK K
          (try simp only [Act.put, List.setIfInBounds_toArray, List.set_cons_zero, List.set_cons_succ])
          refine wpAnyH_done (by kernel_rfl) ?_ _
        rotate_left
        all_goals
          have hgg : gg ≠ w3.heap.size := by
            rcases hat5 with h | h
            · exact fun e => hgn.out (by rw [h, e])
            · omega
          have A5 : Below w4.heap.size w4 (w4.alloc (.cells #[.string (gN B.gs k), .int .i64 (gS B.gs k)] 62)).drew.drew := by (repeat (first | exact Below.refl _ _ | refine Below.setCell ?_ (by first | (simp; done) | (simp; omega) | omega) _ | refine belowN ?_ _ | refine Below.drew ?_ | refine Below.alloc ?_ (by first | (simp; done) | (simp; omega) | omega) _ | refine Below.trans ?_ (Below.mono (by assumption) (by first | (simp; done) | (simp; omega) | omega))))
          have HG6 := Lib.hid (own_set (a := ⟨w3.heap.size, 0, none⟩) hown5 (by simpa [Value.ownBlock] using hgg) (.slice (some ⟨gg, 0, none⟩) ((mG A.gs B.gs k).length + 1) gcap))
          have HN6 := Lib.hid (ownsRow_setCell_below (a := ⟨w3.heap.size, 0, none⟩) (World.ownsRow.kept (ownsRow_keep HN4.out A5) hgrow5 (rows_apart HN4.out HR4.out (by decide))) (Nat.lt_succ_self _) (.slice (some ⟨gg, 0, none⟩) ((mG A.gs B.gs k).length + 1) gcap))
          have T6 := Lib.hid (T5.put0 (.slice (some ⟨gg, 0, none⟩) ((mG A.gs B.gs k).length + 1) gcap))
          have S6 := Lib.hid (((S4.out.below A5).grow (ownsRow_keep HR4.out A5) hgrow5).set (a := ⟨w3.heap.size, 0, none⟩) (.inr rfl) (.slice (some ⟨gg, 0, none⟩) ((mG A.gs B.gs k).length + 1) gcap))
          have B6 : Below w2.heap.size w2 (w5.setCell ⟨w3.heap.size, 0, none⟩ (.slice (some ⟨gg, 0, none⟩) ((mG A.gs B.gs k).length + 1) gcap)) := by (repeat (first | exact Below.refl _ _ | refine Below.setCell ?_ (by first | (simp; done) | (simp; omega) | omega) _ | refine belowN ?_ _ | refine Below.drew ?_ | refine Below.alloc ?_ (by first | (simp; done) | (simp; omega) | omega) _ | refine Below.trans ?_ (Below.mono (by assumption) (by first | (simp; done) | (simp; omega) | omega))))
          have e6 := T6.out.c0
          have s6 := B6.size
          have s7 := S6.out.le
          clear e5 f5 l5 T5 hb5 hown5 hgrow5 A5 y5 c0 c1 e0 HR4 HN4 T4 S4 B4 z4 hbw sw hlt5 hat5 y0
          generalize w5.setCell ⟨w3.heap.size, 0, none⟩ (.slice (some ⟨gg, 0, none⟩) ((mG A.gs B.gs k).length + 1) gcap) = w6 at *
          go_wp2_with (at_builtin; refine wpList_append_own _ rfl _ _ 37 rfl (w3.heap.size + 1) 2 j0 (.int .i64 0) 1 8 Try.underlying37 hj hy0 hy1 hy2 rfl (by decide) _ _ _ rfl (HN6.out.alloc _) ⟨w6.heap.size, 0, none⟩ 1 1 [.int .i64 (((mG A.gs B.gs k).length : Int) + 1)] rfl rfl (cell_one_new _ _ _) (ints_oneCell .i64 [((mG A.gs B.gs k).length : Int) + 1]) (maxLen_of (by omega)) (by omega) (by first | (simp; done) | (simp; omega) | omega) ?_; intro v8 w8 hown8 hgrow8 _; have HO8 := Lib.hid hown8; have HG8 := Lib.hid hgrow8; clear hown8 hgrow8)
          go_roundw
          case rel =>
            obtain ⟨r1, r2, r3, r4⟩ := mrgEnd T6.out HG6.out HN6.out S6.out B6 hs3 HG8.out
            have hlen : (mG A.gs B.gs (k + 1)).length = (mG A.gs B.gs k).length + 1 := by rw [(mG_in HF.out).1]; simp
            refine ⟨k + 1, _, _, by omega, rfl, by go_num, Lib.hid (gAgree_succ hag.out fun ⟨q, _, hq, _⟩ => by have := HF.out; omega), r1, Lib.hid (by simpa [Value.ownBlock] using hgg), ?_, ?_, r3, r4⟩
            · rw [hlen, (mG_in HF.out).1, gCells_snoc]
              exact r2
            · have e4 : mNums A.gs B.gs (k + 1) = mNums A.gs B.gs k ++ [mNum A.gs B.gs k] := rfl
              rw [e4, (mG_in HF.out).2]
              simpa using HO8.out
          case measure => simp [intOf]; omega
      · have HF := Lib.hid hf
        rw [hf]
        obtain ⟨ab, aoff, rfl, HX1⟩ := HCA.out (by omega)
        have BW : Below w.heap.size w w4 := B2.trans (B4.mono (by omega))
        have d1 := cell_below BW (HX1 p 1 hp (by omega))
        simp at d1
        have x4 := cell_below B4 X3.out.c0
        have hpi : (p : Int) < A.gs.length := by omega
        have hp0 : (0 : Int) ≤ p := by omega
        have hwp : IntKind.i64.wrap (p : Int) = p := by simp [IntKind.wrap, IntKind.min, IntKind.max, IntKind.signed, IntKind.bits]; omega
        clear hf hnm HX1
        by_cases he : gS A.gs p = gS B.gs k
        · rw [he] at d1
          go_wp2_with fail
          refine wp_region_held_drew (S := (fun w' => w'.cell? ⟨w.heap.size + 1, 0, none⟩ = some (.slice (some ⟨b, off, none⟩) B.gs.length bcap) ∧ w'.cell? ⟨w.heap.size, 0, none⟩ = some (.slice (some ⟨ab, aoff, none⟩) A.gs.length acap) ∧ w'.cell? ⟨ab, aoff + p * 2 + 1, none⟩ = some (.int .i64 (gS B.gs k)) ∧ w'.cell? ⟨b, off + k * 2 + 1, none⟩ = some (.int .i64 (gS B.gs k)))) (by kernel_rfl) ?_ (fun hHeld => ?_)
          · (try dsimp only)
            (((try go_split_ands); (try dsimp only); (repeat' apply And.intro)) <;> (repeat (first | with_reducible assumption | ((with_reducible refine cnew0 ?_); simp; done) | ((with_reducible refine cnew1 ?_); simp; done) | (with_reducible refine akeep ?_) | (with_reducible refine dkeep ?_) | ((with_reducible refine skeep ?_ ?_); rotate_left; (first | ((try dsimp only); omega) | (simp; done) | (simp; omega))) | (with_reducible refine bkeep hb3 ?_))))
          refine wpAnyH_take (i := 0) (oi := ⟨_, _, _, _, _, _⟩) (v := ?_) rfl (by kernel_rfl) (by kernel_rfl) (by kernel_rfl) (fun _ _ _ h => h) (Or.inl ⟨by rfl, ?_⟩) (by assumption) ?_
          rotate_left
          · (intro w hSw; (try dsimp only at hSw); go_simp; (try with_reducible rfl))
          (try simp only [Act.put, List.setIfInBounds_toArray, List.set_cons_zero, List.set_cons_succ])
          refine wpAnyH_take (i := 1) (oi := ⟨_, _, _, _, _, _⟩) (v := ?_) rfl (by kernel_rfl) (by kernel_rfl) (by kernel_rfl) (fun _ _ _ h => h) (Or.inl ⟨by rfl, ?_⟩) (by assumption) ?_
          rotate_left
          · (intro w hSw; (try dsimp only at hSw); go_simp; (try with_reducible rfl))
          (try simp only [Act.put, List.setIfInBounds_toArray, List.set_cons_zero, List.set_cons_succ])
          refine wpAnyH_take (i := 2) (oi := ⟨_, _, _, _, _, _⟩) (v := ?_) rfl (by kernel_rfl) (by kernel_rfl) (by kernel_rfl) (fun _ _ _ h => h) (Or.inl ⟨by rfl, ?_⟩) (by assumption) ?_
          rotate_left
          · (intro w hSw; (try dsimp only at hSw); go_simp; (try with_reducible rfl))
          (try simp only [Act.put, List.setIfInBounds_toArray, List.set_cons_zero, List.set_cons_succ])
          refine wpAnyH_take (i := 3) (oi := ⟨_, _, _, _, _, _⟩) (v := ?_) rfl (by kernel_rfl) (by kernel_rfl) (by kernel_rfl) (fun _ _ _ h => h) (Or.inl ⟨by rfl, ?_⟩) (by assumption) ?_
          rotate_left
          · (intro w hSw; (try dsimp only at hSw); go_simp; (try with_reducible rfl))
          (try simp only [Act.put, List.setIfInBounds_toArray, List.set_cons_zero, List.set_cons_succ])
          refine wpAnyH_take (i := 4) (oi := ⟨_, _, _, _, _, _⟩) (v := ?_) rfl (by kernel_rfl) (by kernel_rfl) (by kernel_rfl) (fun _ _ _ h => h) (Or.inl ⟨by rfl, ?_⟩) (by assumption) ?_
          rotate_left
          · (intro w hSw; (try dsimp only at hSw); go_simp; (try with_reducible rfl))
          (try simp only [Act.put, List.setIfInBounds_toArray, List.set_cons_zero, List.set_cons_succ])
          refine wpAnyH_take (i := 5) (oi := ⟨_, _, _, _, _, _⟩) (v := ?_) rfl (by kernel_rfl) (by kernel_rfl) (by kernel_rfl) (fun _ _ _ h => h) (Or.inl ⟨by rfl, ?_⟩) (by assumption) ?_
          rotate_left
          · (intro w hSw; (try dsimp only at hSw); go_simp; (try with_reducible rfl))
          (try simp only [Act.put, List.setIfInBounds_toArray, List.set_cons_zero, List.set_cons_succ])
          refine wpAnyH_take (i := 6) (oi := ⟨_, _, _, _, _, _⟩) (v := ?_) rfl (by kernel_rfl) (by kernel_rfl) (by kernel_rfl) (fun _ _ _ h => h) (Or.inl ⟨by rfl, ?_⟩) (by assumption) ?_
          rotate_left
          · (intro w hSw; (try dsimp only at hSw); go_simp; (try with_reducible rfl))
          (try simp only [Act.put, List.setIfInBounds_toArray, List.set_cons_zero, List.set_cons_succ])
          refine wpAnyH_take (i := 7) (oi := ⟨_, _, _, _, _, _⟩) (v := ?_) rfl (by kernel_rfl) (by kernel_rfl) (by kernel_rfl) (fun _ _ _ h => h) (Or.inl ⟨by rfl, ?_⟩) (by assumption) ?_
          rotate_left
          · (intro w hSw; (try dsimp only at hSw); go_simp; (try with_reducible rfl))
          (try simp only [Act.put, List.setIfInBounds_toArray, List.set_cons_zero, List.set_cons_succ])
          refine wpAnyH_take (i := 8) (oi := ⟨_, _, _, _, _, _⟩) (v := ?_) rfl (by kernel_rfl) (by kernel_rfl) (by kernel_rfl) (fun _ _ _ h => h) (Or.inl ⟨by rfl, ?_⟩) (by assumption) ?_
          rotate_left
          · (intro w hSw; (try dsimp only at hSw); go_simp; (try with_reducible rfl))
          (try simp only [Act.put, List.setIfInBounds_toArray, List.set_cons_zero, List.set_cons_succ])
          refine wpAnyH_take (i := 9) (oi := ⟨_, _, _, _, _, _⟩) (v := ?_) rfl (by kernel_rfl) (by kernel_rfl) (by kernel_rfl) (fun _ _ _ h => h) (Or.inl ⟨by rfl, ?_⟩) (by assumption) ?_
          rotate_left
          · (intro w hSw; (try dsimp only at hSw); go_simp; (try with_reducible rfl))
          (try simp only [Act.put, List.setIfInBounds_toArray, List.set_cons_zero, List.set_cons_succ])
          refine wpAnyH_take (i := 10) (oi := ⟨_, _, _, _, _, _⟩) (v := ?_) rfl (by kernel_rfl) (by kernel_rfl) (by kernel_rfl) (fun _ _ _ h => h) (Or.inl ⟨by rfl, ?_⟩) (by assumption) ?_
          rotate_left
          · (intro w hSw; (try dsimp only at hSw); go_simp; (try with_reducible rfl))
          (try simp only [Act.put, List.setIfInBounds_toArray, List.set_cons_zero, List.set_cons_succ])
          refine wpAnyH_take (i := 11) (oi := ⟨_, _, _, _, _, _⟩) (v := ?_) rfl (by kernel_rfl) (by kernel_rfl) (by kernel_rfl) (fun _ _ _ h => h) (Or.inl ⟨by rfl, ?_⟩) (by assumption) ?_
          rotate_left
          · (intro w hSw; (try dsimp only at hSw); go_simp; (try with_reducible rfl))
          (try simp only [Act.put, List.setIfInBounds_toArray, List.set_cons_zero, List.set_cons_succ])
          refine wpAnyH_take (i := 12) (oi := ⟨_, _, _, _, _, _⟩) (v := ?_) rfl (by kernel_rfl) (by kernel_rfl) (by kernel_rfl) (fun _ _ _ h => h) (Or.inl ⟨by rfl, ?_⟩) (by assumption) ?_
          rotate_left
          · (intro w hSw; (try dsimp only at hSw); go_simp; (try with_reducible rfl))
          (try simp only [Act.put, List.setIfInBounds_toArray, List.set_cons_zero, List.set_cons_succ])
          refine wpAnyH_take (i := 13) (oi := ⟨_, _, _, _, _, _⟩) (v := ?_) rfl (by kernel_rfl) (by kernel_rfl) (by kernel_rfl) (fun _ _ _ h => h) (Or.inl ⟨by rfl, ?_⟩) (by assumption) ?_
          rotate_left
          · (intro w hSw; (try dsimp only at hSw); go_simp; (try with_reducible rfl))
          (try simp only [Act.put, List.setIfInBounds_toArray, List.set_cons_zero, List.set_cons_succ])
          refine wpAnyH_take (i := 14) (oi := ⟨_, _, _, _, _, _⟩) (v := ?_) rfl (by kernel_rfl) (by kernel_rfl) (by kernel_rfl) (fun _ _ _ h => h) (Or.inl ⟨by rfl, ?_⟩) (by assumption) ?_
          rotate_left
          · (intro w hSw; (try dsimp only at hSw); go_simp; (try with_reducible rfl))
          (try simp only [Act.put, List.setIfInBounds_toArray, List.set_cons_zero, List.set_cons_succ])
          refine wpAnyH_take (i := 15) (oi := ⟨_, _, _, _, _, _⟩) (v := ?_) rfl (by kernel_rfl) (by kernel_rfl) (by kernel_rfl) (fun _ _ _ h => h) (Or.inl ⟨by rfl, ?_⟩) (by assumption) ?_
          rotate_left
          · (intro w hSw; (try dsimp only at hSw); go_simp; (try with_reducible rfl))
          (try simp only [Act.put, List.setIfInBounds_toArray, List.set_cons_zero, List.set_cons_succ])
          refine wpAnyH_take (i := 16) (oi := ⟨_, _, _, _, _, _⟩) (v := ?_) rfl (by kernel_rfl) (by kernel_rfl) (by kernel_rfl) (fun _ _ _ h => h) (Or.inl ⟨by rfl, ?_⟩) (by assumption) ?_
          rotate_left
          · (intro w hSw; (try dsimp only at hSw); go_simp; (try with_reducible rfl))
          (try simp only [Act.put, List.setIfInBounds_toArray, List.set_cons_zero, List.set_cons_succ])
          refine wpAnyH_take (i := 17) (oi := ⟨_, _, _, _, _, _⟩) (v := ?_) rfl (by kernel_rfl) (by kernel_rfl) (by kernel_rfl) (fun _ _ _ h => h) (Or.inl ⟨by rfl, ?_⟩) (by assumption) ?_
          rotate_left
          · (intro w hSw; (try dsimp only at hSw); go_simp; (try with_reducible rfl))
          (try simp only [Act.put, List.setIfInBounds_toArray, List.set_cons_zero, List.set_cons_succ])
          refine wpAnyH_done (by kernel_rfl) ?_ _
          go_wp2_with (at_builtin; refine wpList_append_own _ rfl _ _ 37 rfl (w3.heap.size + 1) 2 j0 (.int .i64 0) 1 8 Try.underlying37 hj hy0 hy1 hy2 rfl (by decide) _ _ _ rfl (ownsRow_keep HN4.out (show Below w4.heap.size w4 _ by (repeat (first | exact Below.refl _ _ | refine Below.setCell ?_ (by first | (simp; done) | (simp; omega) | omega) _ | refine belowN ?_ _ | refine Below.drew ?_ | refine Below.alloc ?_ (by first | (simp; done) | (simp; omega) | omega) _ | refine Below.trans ?_ (Below.mono (by assumption) (by first | (simp; done) | (simp; omega) | omega)))))) ⟨w4.heap.size, 0, none⟩ 1 1 [.int .i64 ((p : Int) + 1)] rfl rfl (World.news_of_block (cs := #[.int .i64 ((p : Int) + 1)]) (t := 2) (fr := (0, 0)) (heap_alloc_new w4 _)) (ints_oneCell .i64 [(p : Int) + 1]) (maxLen_of (by omega)) (by omega) (by first | (simp; done) | (simp; omega) | omega) ?_; intro v8 w8 hown8 hgrow8 _; have HO8 := Lib.hid hown8; have HG8 := Lib.hid hgrow8; clear hown8 hgrow8)
          go_roundw
          case rel =>
            obtain ⟨r1, r2, r3, r4⟩ := mrgEnd (w6 := w4.drew) T4.out.drew HR4.out HN4.out (S4.out.below (by (repeat (first | exact Below.refl _ _ | refine Below.setCell ?_ (by first | (simp; done) | (simp; omega) | omega) _ | refine belowN ?_ _ | refine Below.drew ?_ | refine Below.alloc ?_ (by first | (simp; done) | (simp; omega) | omega) _ | refine Below.trans ?_ (Below.mono (by assumption) (by first | (simp; done) | (simp; omega) | omega)))))) B4.drew hs3 HG8.out
            refine ⟨k + 1, _, _, by omega, rfl, by go_num, Lib.hid (gAgree_succ hag.out fun ⟨q, _, hq, hne⟩ => ?_), r1, hgn, ?_, ?_, r3, r4⟩
            · have h1 := HF.out
              obtain rfl : q = p := by omega
              exact hne he
            · rw [(mG_out HF.out).1]
              exact r2
            · have e4 : mNums A.gs B.gs (k + 1) = mNums A.gs B.gs k ++ [mNum A.gs B.gs k] := rfl
              rw [e4, (mG_out HF.out).2]
              simpa using HO8.out
          case measure => simp [intOf]; omega
        · have K := Lib.hid (show ¬ gAgree A.gs B.gs B.gs.length from fun h => h k hlt ⟨p, hp, HF.out, he⟩)
          have bn : (gS A.gs p == gS B.gs k) = false := by simpa using he
          go_wp2_with fail
          refine wp_region_held_drew (S := (fun w' => w'.cell? ⟨w.heap.size + 1, 0, none⟩ = some (.slice (some ⟨b, off, none⟩) B.gs.length bcap) ∧ w'.cell? ⟨w.heap.size, 0, none⟩ = some (.slice (some ⟨ab, aoff, none⟩) A.gs.length acap) ∧ w'.cell? ⟨ab, aoff + p * 2 + 1, none⟩ = some (.int .i64 (gS A.gs p)) ∧ w'.cell? ⟨b, off + k * 2 + 1, none⟩ = some (.int .i64 (gS B.gs k)))) (by kernel_rfl) ?_ (fun hHeld => ?_)
          · (try dsimp only)
            (((try go_split_ands); (try dsimp only); (repeat' apply And.intro)) <;> (repeat (first | with_reducible assumption | ((with_reducible refine cnew0 ?_); simp; done) | ((with_reducible refine cnew1 ?_); simp; done) | (with_reducible refine akeep ?_) | (with_reducible refine dkeep ?_) | ((with_reducible refine skeep ?_ ?_); rotate_left; (first | ((try dsimp only); omega) | (simp; done) | (simp; omega))) | (with_reducible refine bkeep hb3 ?_))))
          refine wpAnyH_take (i := 0) (oi := ⟨_, _, _, _, _, _⟩) (v := ?_) rfl (by kernel_rfl) (by kernel_rfl) (by kernel_rfl) (fun _ _ _ h => h) (Or.inl ⟨by rfl, ?_⟩) (by assumption) ?_
          rotate_left
          · (intro w hSw; (try dsimp only at hSw); go_simp; (try with_reducible rfl))
          (try simp only [Act.put, List.setIfInBounds_toArray, List.set_cons_zero, List.set_cons_succ])
          refine wpAnyH_take (i := 1) (oi := ⟨_, _, _, _, _, _⟩) (v := ?_) rfl (by kernel_rfl) (by kernel_rfl) (by kernel_rfl) (fun _ _ _ h => h) (Or.inl ⟨by rfl, ?_⟩) (by assumption) ?_
          rotate_left
          · (intro w hSw; (try dsimp only at hSw); go_simp; (try with_reducible rfl))
          (try simp only [Act.put, List.setIfInBounds_toArray, List.set_cons_zero, List.set_cons_succ])
          refine wpAnyH_take (i := 2) (oi := ⟨_, _, _, _, _, _⟩) (v := ?_) rfl (by kernel_rfl) (by kernel_rfl) (by kernel_rfl) (fun _ _ _ h => h) (Or.inl ⟨by rfl, ?_⟩) (by assumption) ?_
          rotate_left
          · (intro w hSw; (try dsimp only at hSw); go_simp; (try with_reducible rfl))
          (try simp only [Act.put, List.setIfInBounds_toArray, List.set_cons_zero, List.set_cons_succ])
          refine wpAnyH_take (i := 3) (oi := ⟨_, _, _, _, _, _⟩) (v := ?_) rfl (by kernel_rfl) (by kernel_rfl) (by kernel_rfl) (fun _ _ _ h => h) (Or.inl ⟨by rfl, ?_⟩) (by assumption) ?_
          rotate_left
          · (intro w hSw; (try dsimp only at hSw); go_simp; (try with_reducible rfl))
          (try simp only [Act.put, List.setIfInBounds_toArray, List.set_cons_zero, List.set_cons_succ])
          refine wpAnyH_take (i := 4) (oi := ⟨_, _, _, _, _, _⟩) (v := ?_) rfl (by kernel_rfl) (by kernel_rfl) (by kernel_rfl) (fun _ _ _ h => h) (Or.inl ⟨by rfl, ?_⟩) (by assumption) ?_
          rotate_left
          · (intro w hSw; (try dsimp only at hSw); go_simp; (try with_reducible rfl))
          (try simp only [Act.put, List.setIfInBounds_toArray, List.set_cons_zero, List.set_cons_succ])
          refine wpAnyH_take (i := 5) (oi := ⟨_, _, _, _, _, _⟩) (v := ?_) rfl (by kernel_rfl) (by kernel_rfl) (by kernel_rfl) (fun _ _ _ h => h) (Or.inl ⟨by rfl, ?_⟩) (by assumption) ?_
          rotate_left
          · (intro w hSw; (try dsimp only at hSw); go_simp; (try with_reducible rfl))
          (try simp only [Act.put, List.setIfInBounds_toArray, List.set_cons_zero, List.set_cons_succ])
          refine wpAnyH_take (i := 6) (oi := ⟨_, _, _, _, _, _⟩) (v := ?_) rfl (by kernel_rfl) (by kernel_rfl) (by kernel_rfl) (fun _ _ _ h => h) (Or.inl ⟨by rfl, ?_⟩) (by assumption) ?_
          rotate_left
          · (intro w hSw; (try dsimp only at hSw); go_simp; (try with_reducible rfl))
          (try simp only [Act.put, List.setIfInBounds_toArray, List.set_cons_zero, List.set_cons_succ])
          refine wpAnyH_take (i := 7) (oi := ⟨_, _, _, _, _, _⟩) (v := ?_) rfl (by kernel_rfl) (by kernel_rfl) (by kernel_rfl) (fun _ _ _ h => h) (Or.inl ⟨by rfl, ?_⟩) (by assumption) ?_
          rotate_left
          · (intro w hSw; (try dsimp only at hSw); go_simp; (try with_reducible rfl))
          (try simp only [Act.put, List.setIfInBounds_toArray, List.set_cons_zero, List.set_cons_succ])
          refine wpAnyH_take (i := 8) (oi := ⟨_, _, _, _, _, _⟩) (v := ?_) rfl (by kernel_rfl) (by kernel_rfl) (by kernel_rfl) (fun _ _ _ h => h) (Or.inl ⟨by rfl, ?_⟩) (by assumption) ?_
          rotate_left
          · (intro w hSw; (try dsimp only at hSw); go_simp; (try with_reducible rfl))
          (try simp only [Act.put, List.setIfInBounds_toArray, List.set_cons_zero, List.set_cons_succ])
          refine wpAnyH_take (i := 9) (oi := ⟨_, _, _, _, _, _⟩) (v := ?_) rfl (by kernel_rfl) (by kernel_rfl) (by kernel_rfl) (fun _ _ _ h => h) (Or.inl ⟨by rfl, ?_⟩) (by assumption) ?_
          rotate_left
          · (intro w hSw; (try dsimp only at hSw); go_simp; (try with_reducible rfl))
          (try simp only [Act.put, List.setIfInBounds_toArray, List.set_cons_zero, List.set_cons_succ])
          refine wpAnyH_take (i := 10) (oi := ⟨_, _, _, _, _, _⟩) (v := ?_) rfl (by kernel_rfl) (by kernel_rfl) (by kernel_rfl) (fun _ _ _ h => h) (Or.inl ⟨by rfl, ?_⟩) (by assumption) ?_
          rotate_left
          · (intro w hSw; (try dsimp only at hSw); go_simp; (try with_reducible rfl))
          (try simp only [Act.put, List.setIfInBounds_toArray, List.set_cons_zero, List.set_cons_succ])
          refine wpAnyH_take (i := 11) (oi := ⟨_, _, _, _, _, _⟩) (v := ?_) rfl (by kernel_rfl) (by kernel_rfl) (by kernel_rfl) (fun _ _ _ h => h) (Or.inl ⟨by rfl, ?_⟩) (by assumption) ?_
          rotate_left
          · (intro w hSw; (try dsimp only at hSw); go_simp; (try with_reducible rfl))
          (try simp only [Act.put, List.setIfInBounds_toArray, List.set_cons_zero, List.set_cons_succ])
          refine wpAnyH_take (i := 12) (oi := ⟨_, _, _, _, _, _⟩) (v := ?_) rfl (by kernel_rfl) (by kernel_rfl) (by kernel_rfl) (fun _ _ _ h => h) (Or.inl ⟨by rfl, ?_⟩) (by assumption) ?_
          rotate_left
          · (intro w hSw; (try dsimp only at hSw); go_simp; (try with_reducible rfl))
          (try simp only [Act.put, List.setIfInBounds_toArray, List.set_cons_zero, List.set_cons_succ])
          refine wpAnyH_take (i := 13) (oi := ⟨_, _, _, _, _, _⟩) (v := ?_) rfl (by kernel_rfl) (by kernel_rfl) (by kernel_rfl) (fun _ _ _ h => h) (Or.inl ⟨by rfl, ?_⟩) (by assumption) ?_
          rotate_left
          · (intro w hSw; (try dsimp only at hSw); go_simp; (try with_reducible rfl))
          (try simp only [Act.put, List.setIfInBounds_toArray, List.set_cons_zero, List.set_cons_succ])
          refine wpAnyH_take (i := 14) (oi := ⟨_, _, _, _, _, _⟩) (v := ?_) rfl (by kernel_rfl) (by kernel_rfl) (by kernel_rfl) (fun _ _ _ h => h) (Or.inl ⟨by rfl, ?_⟩) (by assumption) ?_
          rotate_left
          · (intro w hSw; (try dsimp only at hSw); go_simp; (try with_reducible rfl))
          (try simp only [Act.put, List.setIfInBounds_toArray, List.set_cons_zero, List.set_cons_succ])
          refine wpAnyH_take (i := 15) (oi := ⟨_, _, _, _, _, _⟩) (v := ?_) rfl (by kernel_rfl) (by kernel_rfl) (by kernel_rfl) (fun _ _ _ h => h) (Or.inl ⟨by rfl, ?_⟩) (by assumption) ?_
          rotate_left
          · (intro w hSw; (try dsimp only at hSw); go_simp; (try with_reducible rfl))
          (try simp only [Act.put, List.setIfInBounds_toArray, List.set_cons_zero, List.set_cons_succ])
          refine wpAnyH_take (i := 16) (oi := ⟨_, _, _, _, _, _⟩) (v := ?_) rfl (by kernel_rfl) (by kernel_rfl) (by kernel_rfl) (fun _ _ _ h => h) (Or.inl ⟨by rfl, ?_⟩) (by assumption) ?_
          rotate_left
          · (intro w hSw; (try dsimp only at hSw); go_simp; (try with_reducible rfl))
          (try simp only [Act.put, List.setIfInBounds_toArray, List.set_cons_zero, List.set_cons_succ])
          refine wpAnyH_take (i := 17) (oi := ⟨_, _, _, _, _, _⟩) (v := ?_) rfl (by kernel_rfl) (by kernel_rfl) (by kernel_rfl) (fun _ _ _ h => h) (Or.inl ⟨by rfl, ?_⟩) (by assumption) ?_
          rotate_left
          · (intro w hSw; (try dsimp only at hSw); go_simp; (try with_reducible rfl))
          (try simp only [Act.put, List.setIfInBounds_toArray, List.set_cons_zero, List.set_cons_succ])
          refine wpAnyH_done (by kernel_rfl) ?_ _
          obtain ⟨x0, x1, xz0, xz1⟩ := Z3.out.below B4
          have K7 := Lib.hid (show meC A B = 7 by unfold meC; rw [VA.out, VB.out, if_neg (by simp), if_pos K.out])
          have s4 := B4.size
          go_wp2_with fail
          refine bodyPost_ret (v := .tuple #[.agg #[.slice none 0 0, .slice none 0 0], .int .i64 7]) ?_ rfl ⟨row_nil (meS_no K7.out (by decide)) K7.out.symm, by (repeat (first | exact Below.refl _ _ | refine Below.setCell ?_ (by first | (simp; done) | (simp; omega) | omega) _ | refine belowN ?_ _ | refine Below.drew ?_ | refine Below.alloc ?_ (by first | (simp; done) | (simp; omega) | omega) _ | refine Below.trans ?_ (Below.mono (by assumption) (by first | (simp; done) | (simp; omega) | omega))))⟩
          simp [results, Try.results8, go_sem, x0, x1, xz0, xz1]
    · obtain rfl : k = B.gs.length := by omega
      obtain ⟨wq, hwq⟩ : ∃ wq, wq = wr := ⟨_, rfl⟩
      subst hwq
      have BX := Lib.hid (hrst.out.builtX BT.out (by decide) (by decide) (Nat.le_refl _))
      have HAGR := hag
      have HBQ := Lib.hid hbw
      have HMM : Hid (mS A B = ⟨mG A.gs B.gs B.gs.length, mT A.ts B.ts (mNums A.gs B.gs B.gs.length) B.ts.length⟩) := Lib.hid rfl
      have HMC : Hid (¬ tAgree A.ts B.ts (mNums A.gs B.gs B.gs.length) B.ts.length → meC A B = 7) := Lib.hid fun h => by unfold meC; rw [VA.out, VB.out, if_neg (by simp), if_neg (by simpa using HAGR.out), if_pos h]
      have HM4 : Hid (tAgree A.ts B.ts (mNums A.gs B.gs B.gs.length) B.ts.length → meC A B = if 200 < (mS A B).gs.length ∨ 160 < (mS A B).ts.length then 4 else 0) := Lib.hid fun h => by unfold meC; rw [VA.out, VB.out, if_neg (by simp), if_neg (by simpa using HAGR.out), if_neg (by simpa using h)]
      have hnl := HNL.out
      have HNB : Hid ((mNums A.gs B.gs B.gs.length).length = B.gs.length + 1) := HNL
      obtain ⟨bn, hbn, hon⟩ := OwnAt.of_row HRN.out
      have hnsz : bn < wq.heap.size := by
        rcases hon with ⟨-, h0⟩ | ⟨_, _, _, _, _, hr, _⟩
        · rw [h0] at hnl; omega
        · exact hr.lt
      have HON := Lib.hid hon
      obtain ⟨bo2, ncap, hnv, hnl2, hnm, hnc⟩ := hon.ints
      obtain ⟨nb, noff, rfl, HNC⟩ := hnc (by omega)
      simp at hnv
      obtain ⟨rfl, rfl⟩ := hnv
      have HNC := Lib.hid HNC
      clear hon hag BT hnc hGl hGe HNL hnl
      generalize hNS : mNums A.gs B.gs B.gs.length = ns at *
      have HNS := Lib.hid hNS
      clear hNS
      have HB0 := Lib.hid HB.out.t
      obtain ⟨svb, ⟨tbo, tbcap, rfl, htl, htm, -⟩, -⟩ := id HB.out.t
      obtain ⟨sva, ⟨tao, tacap, rfl, htlA, htmA, -⟩, -⟩ := id HA.out.t
      unfold maxLen at htm htmA
      obtain ⟨t0, hti, hx0, hx1, hx2⟩ := info_parts info_tile
      go_wp2_with fail
      clear y0 y1
      go_loopw [10] (fun i wv => ∃ (k : Nat) (tv : Value), k ≤ B.ts.length ∧ i = .int .i64 k ∧ Hid (tAgree A.ts B.ts ns k) ∧ Two wv w3.heap.size (.slice gx (mG A.gs B.gs B.gs.length).length gxc) tv ∧ Hid (BuiltX wv w3.heap.size mm tv (mT A.ts B.ts ns k).length (tN (mT A.ts B.ts ns k)) (tS (mT A.ts B.ts ns k))) ∧ Hid (Rst 64 w3.heap.size wq wv) ∧ Below w2.heap.size w2 wv) (fun i _ => B.ts.length - (intOf i).toNat)
      case atStart => exact ⟨0, _, by omega, rfl, Lib.hid (fun j hj => absurd hj (Nat.not_lt_zero j)), HT.out, Lib.hid (by simpa [mT, tNew] using BX.out), Lib.hid (Rst.refl _ _ _), hbw⟩
      case round =>
        clear BX
        obtain ⟨k, tv, hk, rfl, hag, hT, HB, HRS, hbv⟩ := hrel
        have sv := hbv.size
        have BV : Below w.heap.size w wr := B2.trans (hbv.mono (by omega))
        have YV := Lib.hid (Y3.out.below hbv)
        obtain ⟨y0, y1, -, -⟩ := YV.out
        have HT2 := Lib.hid hT
        have hlT2 := hT.lt
        have hTl := tNew_len A.ts B.ts ns k
        have hTe : (mT A.ts B.ts ns k).length = A.ts.length + (tNew A.ts B.ts ns k).length := by simp [mT]
        have hnn2 : (mT A.ts B.ts ns k).length ≤ 2000 := by omega
        clear hTe hTl hT
        generalize hnn : (mT A.ts B.ts ns k).length = nn at *
        have HNN := Lib.hid hnn
        clear hnn
        obtain ⟨xa, xc, rfl⟩ := built_len HB.out.built
        by_cases hlt : k < B.ts.length
        · obtain ⟨b, off, cap2, hvt, hl3, hmx3, hc⟩ := tiles_open HB0.out (by omega)
          have hsd := PB.out.sides hlt
          obtain ⟨b2, o2, c, c0, c1, hc4, hcm, hcc⟩ := hc k hlt hsd
          simp at hvt
          obtain ⟨rfl, rfl⟩ := hvt
          have HCC := Lib.hid fun m hm => cell_below BV (hcc m hm)
          have d0 := cell_below BV c0
          have d1 := cell_below BV c1
          have hzr := (PB.out.t.all k hlt).2.1.2
          have HZR := Lib.hid hzr
          have hbl : b < w.heap.size := World.block_lt_of_cell? w _ c0
          have hb2l : b2 < w.heap.size := World.block_lt_of_cell? w _ (hcc 0 (by omega))
          have swu := BV.size
          clear hc c0 c1 hcc hzr
          go_wp2_with fail
          obtain ⟨wu, hwu⟩ : ∃ wu, wu = wr := ⟨_, rfl⟩
          subst hwu
          have hon := HRS.out.at4 HON.out (by decide) (show bn ≠ w3.heap.size by omega)
          obtain ⟨bo3, ncap3, hnv3, -, -, hnc3⟩ := hon.ints
          obtain ⟨nb', noff', hnv4, HNU⟩ := hnc3 (by have := HNB.out; omega)
          rw [hnv4] at hnv3
          simp at hnv3
          obtain ⟨⟨rfl, rfl⟩, -⟩ := hnv3
          have hnbl : nb < wu.heap.size := World.block_lt_of_cell? wu _ (HNU 0 0 (by have := HNB.out; omega) (by omega))
          have HNU := Lib.hid HNU
          have hr4 : (ren ns (tS B.ts k)).length = 4 := rfl
          clear hon hnc3 hnv4
          go_loopw [12] (fun i wz => ∃ (m : Nat) (s : Value), m ≤ 4 ∧ i = .int .i64 m ∧ Two wz wu.heap.size (.string (tN B.ts k)) s ∧ wz.ownsRow (wu.heap.size + 1) 2 1 s m (((ren ns (tS B.ts k)).take m).map (Value.int .i64)) ∧ Below wu.heap.size wu wz) (fun i _ => 4 - (intOf i).toNat)
          case atStart => exact ⟨0, _, by omega, rfl, Two.new wu _ _ _ rfl, ⟨rfl, .inl ⟨rfl, rfl⟩⟩, by (repeat (first | exact Below.refl _ _ | refine Below.setCell ?_ (by first | (simp; done) | (simp; omega) | omega) _ | refine belowN ?_ _ | refine Below.drew ?_ | refine Below.alloc ?_ (by first | (simp; done) | (simp; omega) | omega) _ | refine Below.trans ?_ (Below.mono (by assumption) (by first | (simp; done) | (simp; omega) | omega))))⟩
          case round =>
            obtain ⟨m, s, hm, rfl, hTt, hrw, hbz⟩ := hrel
            have HRW := Lib.hid hrw
            have HTt := Lib.hid hTt
            obtain ⟨sx, sxc, rfl⟩ := own_len hrw
            have szz := hbz.size
            have hlz := hTt.lt
            obtain ⟨t0', t1', tz0, tz1⟩ := hTt
            have y1z := cell_below hbz y1
            clear hrw
            by_cases hm4 : m < 4
            · have hz := HZR.out m hm4
              have k0 := HCC.out m hm4
              have hrn : iAt (ren ns (tS B.ts k)) m = iAt ns (iAt (tS B.ts k) m).toNat := by
                obtain rfl | rfl | rfl | rfl : m = 0 ∨ m = 1 ∨ m = 2 ∨ m = 3 := by omega
                all_goals rfl
              have HRE := Lib.hid hrn
              have hnb := HNB.out
              have k1 := HNU.out (iAt (tS B.ts k) m).toNat 0 (by omega) (by omega)
              simp at k1
              clear hrn
              obtain ⟨hz0', hz1'⟩ := hz
              have hzn : iAt (tS B.ts k) m < (ns.length : Int) := by omega
              generalize iAt (tS B.ts k) m = z at *
              have k0z := cell_below hbz k0
              have k1z := cell_below hbz k1
              have d1z := cell_below hbz d1
              have hneS : some wu.heap.size ≠ (Value.slice sx m sxc).ownBlock := fun e => by have := own_block_ge HRW.out _ e.symm; omega
              clear hnb
              go_wp2_with fail
              refine wp_region_held_drew (S := (fun w' => w'.cell? ⟨w.heap.size + 1, 1, none⟩ = some (.slice (some ⟨b, off, none⟩) B.ts.length tbcap) ∧ w'.cell? ⟨b, off + k * 2 + 1, none⟩ = some (.slice (some ⟨b2, o2, none⟩) 4 c) ∧ w'.cell? ⟨b2, o2 + m, none⟩ = some (.int .i64 z) ∧ w'.cell? ⟨nb, noff + z.toNat, none⟩ = some (.int .i64 (iAt ns z.toNat)))) (by kernel_rfl) ?_ (fun hHeld => ?_)
              · (try dsimp only)
                (((try go_split_ands); (try dsimp only); (repeat' apply And.intro)) <;> (repeat (first | with_reducible assumption | ((with_reducible refine cnew0 ?_); simp; done) | ((with_reducible refine cnew1 ?_); simp; done) | (with_reducible refine akeep ?_) | (with_reducible refine dkeep ?_) | ((with_reducible refine skeep ?_ ?_); rotate_left; (first | ((try dsimp only); omega) | (simp; done) | (simp; omega))) | (with_reducible refine bkeep hb3 ?_))))
              refine wpAnyH_take (i := 0) (oi := ⟨_, _, _, _, _, _⟩) (v := ?_) rfl (by kernel_rfl) (by kernel_rfl) (by kernel_rfl) (fun _ _ _ h => h) (Or.inl ⟨by rfl, ?_⟩) (by assumption) ?_
              rotate_left
              · (intro w hSw; (try dsimp only at hSw); go_simp; (try with_reducible rfl))
              (try simp only [Act.put, List.setIfInBounds_toArray, List.set_cons_zero, List.set_cons_succ])
              refine wpAnyH_take (i := 2) (oi := ⟨_, _, _, _, _, _⟩) (v := ?_) rfl (by kernel_rfl) (by kernel_rfl) (by kernel_rfl) (fun _ _ _ h => h) (Or.inl ⟨by rfl, ?_⟩) (by assumption) ?_
              rotate_left
              · (intro w hSw; (try dsimp only at hSw); go_simp; (try with_reducible rfl))
              (try simp only [Act.put, List.setIfInBounds_toArray, List.set_cons_zero, List.set_cons_succ])
              refine wpAnyH_take (i := 3) (oi := ⟨_, _, _, _, _, _⟩) (v := ?_) rfl (by kernel_rfl) (by kernel_rfl) (by kernel_rfl) (fun _ _ _ h => h) (Or.inl ⟨by rfl, ?_⟩) (by assumption) ?_
              rotate_left
              · (intro w hSw; (try dsimp only at hSw); go_simp; (try with_reducible rfl))
              (try simp only [Act.put, List.setIfInBounds_toArray, List.set_cons_zero, List.set_cons_succ])
              refine wpAnyH_take (i := 4) (oi := ⟨_, _, _, _, _, _⟩) (v := ?_) rfl (by kernel_rfl) (by kernel_rfl) (by kernel_rfl) (fun _ _ _ h => h) (Or.inl ⟨by rfl, ?_⟩) (by assumption) ?_
              rotate_left
              · (intro w hSw; (try dsimp only at hSw); go_simp; (try with_reducible rfl))
              (try simp only [Act.put, List.setIfInBounds_toArray, List.set_cons_zero, List.set_cons_succ])
              refine wpAnyH_take (i := 5) (oi := ⟨_, _, _, _, _, _⟩) (v := ?_) rfl (by kernel_rfl) (by kernel_rfl) (by kernel_rfl) (fun _ _ _ h => h) (Or.inl ⟨by rfl, ?_⟩) (by assumption) ?_
              rotate_left
              · (intro w hSw; (try dsimp only at hSw); go_simp; (try with_reducible rfl))
              (try simp only [Act.put, List.setIfInBounds_toArray, List.set_cons_zero, List.set_cons_succ])
              refine wpAnyH_take (i := 6) (oi := ⟨_, _, _, _, _, _⟩) (v := ?_) rfl (by kernel_rfl) (by kernel_rfl) (by kernel_rfl) (fun _ _ _ h => h) (Or.inl ⟨by rfl, ?_⟩) (by assumption) ?_
              rotate_left
              · (intro w hSw; (try dsimp only at hSw); go_simp; (try with_reducible rfl))
              (try simp only [Act.put, List.setIfInBounds_toArray, List.set_cons_zero, List.set_cons_succ])
              refine wpAnyH_take (i := 7) (oi := ⟨_, _, _, _, _, _⟩) (v := ?_) rfl (by kernel_rfl) (by kernel_rfl) (by kernel_rfl) (fun _ _ _ h => h) (Or.inl ⟨by rfl, ?_⟩) (by assumption) ?_
              rotate_left
              · (intro w hSw; (try dsimp only at hSw); go_simp; (try with_reducible rfl))
              (try simp only [Act.put, List.setIfInBounds_toArray, List.set_cons_zero, List.set_cons_succ])
              refine wpAnyH_take (i := 8) (oi := ⟨_, _, _, _, _, _⟩) (v := ?_) rfl (by kernel_rfl) (by kernel_rfl) (by kernel_rfl) (fun _ _ _ h => h) (Or.inl ⟨by rfl, ?_⟩) (by assumption) ?_
              rotate_left
              · (intro w hSw; (try dsimp only at hSw); go_simp; (try with_reducible rfl))
              (try simp only [Act.put, List.setIfInBounds_toArray, List.set_cons_zero, List.set_cons_succ])
              refine wpAnyH_take (i := 9) (oi := ⟨_, _, _, _, _, _⟩) (v := ?_) rfl (by kernel_rfl) (by kernel_rfl) (by kernel_rfl) (fun _ _ _ h => h) (Or.inl ⟨by rfl, ?_⟩) (by assumption) ?_
              rotate_left
              · (intro w hSw; (try dsimp only at hSw); go_simp; (try with_reducible rfl))
              (try simp only [Act.put, List.setIfInBounds_toArray, List.set_cons_zero, List.set_cons_succ])
              refine wpAnyH_take (i := 10) (oi := ⟨_, _, _, _, _, _⟩) (v := ?_) rfl (by kernel_rfl) (by kernel_rfl) (by kernel_rfl) (fun _ _ _ h => h) (Or.inl ⟨by rfl, ?_⟩) (by assumption) ?_
              rotate_left
              · (intro w hSw; (try dsimp only at hSw); go_simp; (try with_reducible rfl))
              (try simp only [Act.put, List.setIfInBounds_toArray, List.set_cons_zero, List.set_cons_succ])
              refine wpAnyH_take (i := 11) (oi := ⟨_, _, _, _, _, _⟩) (v := ?_) rfl (by kernel_rfl) (by kernel_rfl) (by kernel_rfl) (fun _ _ _ h => h) (Or.inl ⟨by rfl, ?_⟩) (by assumption) ?_
              rotate_left
              · (intro w hSw; (try dsimp only at hSw); go_simp; (try with_reducible rfl))
              (try simp only [Act.put, List.setIfInBounds_toArray, List.set_cons_zero, List.set_cons_succ])
              refine wpAnyH_take (i := 12) (oi := ⟨_, _, _, _, _, _⟩) (v := ?_) rfl (by kernel_rfl) (by kernel_rfl) (by kernel_rfl) (fun _ _ _ h => h) (Or.inl ⟨by rfl, ?_⟩) (by assumption) ?_
              rotate_left
              · (intro w hSw; (try dsimp only at hSw); go_simp; (try with_reducible rfl))
              (try simp only [Act.put, List.setIfInBounds_toArray, List.set_cons_zero, List.set_cons_succ])
              refine wpAnyH_take (i := 13) (oi := ⟨_, _, _, _, _, _⟩) (v := ?_) rfl (by kernel_rfl) (by kernel_rfl) (by kernel_rfl) (fun _ _ _ h => h) (Or.inl ⟨by rfl, ?_⟩) (by assumption) ?_
              rotate_left
              · (intro w hSw; (try dsimp only at hSw); go_simp; (try with_reducible rfl))
              (try simp only [Act.put, List.setIfInBounds_toArray, List.set_cons_zero, List.set_cons_succ])
              refine wpAnyH_ready (rs := [1, 14]) (by kernel_rfl) (by simp) ?_
              refine AllReadyH.cons (o := ⟨_, _, _, _, _, _⟩) rfl (fun K hK => ?_) (AllReadyH.cons (o := ⟨_, _, _, _, _, _⟩) rfl (fun K hK => ?_) AllReadyH.nil)
              focus
                go_simp
                refine hK.out _ _ ?_ (fun hHeld => ?_)
                · (try dsimp only)
                  (((try go_split_ands); (try dsimp only); (repeat' apply And.intro)) <;> (repeat (first | with_reducible assumption | ((with_reducible refine cnew0 ?_); simp; done) | ((with_reducible refine cnew1 ?_); simp; done) | (with_reducible refine akeep ?_) | (with_reducible refine dkeep ?_) | ((with_reducible refine skeep ?_ ?_); rotate_left; (first | ((try dsimp only); omega) | (simp; done) | (simp; omega))) | (with_reducible refine bkeep hb3 ?_))))
                clear hK K
                (try simp only [Act.put, List.setIfInBounds_toArray, List.set_cons_zero, List.set_cons_succ])
                refine wpAnyH_ready (rs := [14]) (by kernel_rfl) (by simp) ?_
                refine AllReadyH.cons (o := ⟨_, _, _, _, _, _⟩) rfl (fun K hK => ?_) AllReadyH.nil
                go_simp
                refine hK.out _ _ ?_ (fun hHeld => ?_)
                · (try dsimp only)
                  (((try go_split_ands); (try dsimp only); (repeat' apply And.intro)) <;> (repeat (first | with_reducible assumption | ((with_reducible refine cnew0 ?_); simp; done) | ((with_reducible refine cnew1 ?_); simp; done) | (with_reducible refine akeep ?_) | (with_reducible refine dkeep ?_) | ((with_reducible refine skeep ?_ ?_); rotate_left; (first | ((try dsimp only); omega) | (simp; done) | (simp; omega))) | (with_reducible refine bkeep hb3 ?_))))
                clear hK K
                (try simp only [Act.put, List.setIfInBounds_toArray, List.set_cons_zero, List.set_cons_succ])
                refine wpAnyH_ready (rs := [15]) (by kernel_rfl) (by simp) ?_
                refine AllReadyH.cons (o := ⟨_, _, _, _, _, _⟩) rfl (fun K hK => ?_) AllReadyH.nil
                (refine step_append_lies _ (by rfl) _ _ _ (by rfl) (wu.heap.size + 1) 2 j0 (.int .i64 0) 1 8 Try.underlying37 hj hy0 hy1 hy2 rfl (by decide) (.slice sx m sxc) _ _ (by rfl) (ownsRow_keep HRW.out (show Below wr.heap.size wr _ by (repeat (first | exact Below.refl _ _ | refine Below.setCell ?_ (by first | (simp; done) | (simp; omega) | omega) _ | refine belowN ?_ _ | refine Below.drew ?_ | refine Below.alloc ?_ (by first | (simp; done) | (simp; omega) | omega) _ | refine Below.trans ?_ (Below.mono (by assumption) (by first | (simp; done) | (simp; omega) | omega)))))) ⟨wr.heap.size, 0, none⟩ 1 1 [.int .i64 (iAt ns z.toNat)] (by rfl) (by rfl) (World.news_of_block (cs := #[.int .i64 (iAt ns z.toNat)]) (t := 2) (fr := (0, 0)) (heap_alloc_new wr _)) (ints_oneCell .i64 [iAt ns z.toNat]) (by omega) (maxLen_of (by omega)) (by omega) (by first | (simp; done) | (simp; omega) | omega) (wr.heap.size + 1) (by simp) ?_; intro gg gcap w5 hown5 hgrow5 hat5 hlt5; have hb5 : Below wu.heap.size wu w5 := Below.grown (show Below wu.heap.size wu (wr.alloc (.cells #[.int .i64 (iAt ns z.toNat)] 2)) from hbz.alloc (by omega) _).drew hgrow5 (by first | (simp; done) | (simp; omega) | omega) (fun j hj => by have := own_block_ge HRW.out j hj; omega); have y5 := cell_below hb5 y1; have d5 := cell_below hb5 d1; have k5 := cell_below hb5 k0; have q5 := cell_below hb5 k1; have T5 := Two.grown ((HTt.out.alloc (.cells #[.int .i64 (iAt ns z.toNat)] 2)).drew) hgrow5 hneS; have e5 := T5.c1; have f5 := T5.z1; have l5 := T5.lt)
                refine hK.out _ _ ?_ (fun hHeld => ?_)
                · (try dsimp only)
                  (((try go_split_ands); (try dsimp only); (repeat' apply And.intro)) <;> (repeat (first | with_reducible assumption | ((with_reducible refine cnew0 ?_); simp; done) | ((with_reducible refine cnew1 ?_); simp; done) | (with_reducible refine akeep ?_) | (with_reducible refine dkeep ?_) | ((with_reducible refine skeep ?_ ?_); rotate_left; (first | ((try dsimp only); omega) | (simp; done) | (simp; omega))) | (with_reducible refine bkeep hb3 ?_))))
                clear hK K
                (try simp only [Act.put, List.setIfInBounds_toArray, List.set_cons_zero, List.set_cons_succ])
                refine wpAnyH_take (i := 16) (oi := ⟨_, _, _, _, _, _⟩) (v := ?_) rfl (by kernel_rfl) (by kernel_rfl) (by kernel_rfl) (fun _ _ _ h => h) (Or.inl ⟨by rfl, ?_⟩) (by assumption) ?_
                rotate_left
                · (intro w hSw; (try dsimp only at hSw); go_simp; (try with_reducible rfl))
                (try simp only [Act.put, List.setIfInBounds_toArray, List.set_cons_zero, List.set_cons_succ])
                refine wpAnyH_ready (rs := [17]) (by kernel_rfl) (by simp) ?_
                refine AllReadyH.cons (o := ⟨_, _, _, _, _, _⟩) rfl (fun K hK => ?_) AllReadyH.nil
                go_simp
                refine hK.out _ _ ?_ (fun hHeld => ?_)
                · (try dsimp only)
                  (((try go_split_ands); (try dsimp only); (repeat' apply And.intro)) <;> (repeat (first | with_reducible assumption | ((with_reducible refine cnew0 ?_); simp; done) | ((with_reducible refine cnew1 ?_); simp; done) | (with_reducible refine akeep ?_) | (with_reducible refine dkeep ?_) | ((with_reducible refine skeep ?_ ?_); rotate_left; (first | ((try dsimp only); omega) | (simp; done) | (simp; omega))) | (with_reducible refine bkeep hb3 ?_))))
                clear hK K
                (try simp only [Act.put, List.setIfInBounds_toArray, List.set_cons_zero, List.set_cons_succ])
                refine wpAnyH_done (by kernel_rfl) ?_ _
              rotate_left
              focus
                go_simp
                refine hK.out _ _ ?_ (fun hHeld => ?_)
                · (try dsimp only)
                  (((try go_split_ands); (try dsimp only); (repeat' apply And.intro)) <;> (repeat (first | with_reducible assumption | ((with_reducible refine cnew0 ?_); simp; done) | ((with_reducible refine cnew1 ?_); simp; done) | (with_reducible refine akeep ?_) | (with_reducible refine dkeep ?_) | ((with_reducible refine skeep ?_ ?_); rotate_left; (first | ((try dsimp only); omega) | (simp; done) | (simp; omega))) | (with_reducible refine bkeep hb3 ?_))))
                clear hK K
                (try simp only [Act.put, List.setIfInBounds_toArray, List.set_cons_zero, List.set_cons_succ])
                refine wpAnyH_ready (rs := [1]) (by kernel_rfl) (by simp) ?_
                refine AllReadyH.cons (o := ⟨_, _, _, _, _, _⟩) rfl (fun K hK => ?_) AllReadyH.nil
                go_simp
                refine hK.out _ _ ?_ (fun hHeld => ?_)
                · (try dsimp only)
                  (((try go_split_ands); (try dsimp only); (repeat' apply And.intro)) <;> (repeat (first | with_reducible assumption | ((with_reducible refine cnew0 ?_); simp; done) | ((with_reducible refine cnew1 ?_); simp; done) | (with_reducible refine akeep ?_) | (with_reducible refine dkeep ?_) | ((with_reducible refine skeep ?_ ?_); rotate_left; (first | ((try dsimp only); omega) | (simp; done) | (simp; omega))) | (with_reducible refine bkeep hb3 ?_))))
                clear hK K
                (try simp only [Act.put, List.setIfInBounds_toArray, List.set_cons_zero, List.set_cons_succ])
                refine wpAnyH_ready (rs := [15]) (by kernel_rfl) (by simp) ?_
                refine AllReadyH.cons (o := ⟨_, _, _, _, _, _⟩) rfl (fun K hK => ?_) AllReadyH.nil
                (refine step_append_lies _ (by rfl) _ _ _ (by rfl) (wu.heap.size + 1) 2 j0 (.int .i64 0) 1 8 Try.underlying37 hj hy0 hy1 hy2 rfl (by decide) (.slice sx m sxc) _ _ (by rfl) (ownsRow_keep HRW.out (show Below wr.heap.size wr _ by (repeat (first | exact Below.refl _ _ | refine Below.setCell ?_ (by first | (simp; done) | (simp; omega) | omega) _ | refine belowN ?_ _ | refine Below.drew ?_ | refine Below.alloc ?_ (by first | (simp; done) | (simp; omega) | omega) _ | refine Below.trans ?_ (Below.mono (by assumption) (by first | (simp; done) | (simp; omega) | omega)))))) ⟨wr.heap.size, 0, none⟩ 1 1 [.int .i64 (iAt ns z.toNat)] (by rfl) (by rfl) (World.news_of_block (cs := #[.int .i64 (iAt ns z.toNat)]) (t := 2) (fr := (0, 0)) (heap_alloc_new wr _)) (ints_oneCell .i64 [iAt ns z.toNat]) (by omega) (maxLen_of (by omega)) (by omega) (by first | (simp; done) | (simp; omega) | omega) (wr.heap.size + 1) (by simp) ?_; intro gg gcap w5 hown5 hgrow5 hat5 hlt5; have hb5 : Below wu.heap.size wu w5 := Below.grown (show Below wu.heap.size wu (wr.alloc (.cells #[.int .i64 (iAt ns z.toNat)] 2)) from hbz.alloc (by omega) _).drew hgrow5 (by first | (simp; done) | (simp; omega) | omega) (fun j hj => by have := own_block_ge HRW.out j hj; omega); have y5 := cell_below hb5 y1; have d5 := cell_below hb5 d1; have k5 := cell_below hb5 k0; have q5 := cell_below hb5 k1; have T5 := Two.grown ((HTt.out.alloc (.cells #[.int .i64 (iAt ns z.toNat)] 2)).drew) hgrow5 hneS; have e5 := T5.c1; have f5 := T5.z1; have l5 := T5.lt)
                refine hK.out _ _ ?_ (fun hHeld => ?_)
                · (try dsimp only)
                  (((try go_split_ands); (try dsimp only); (repeat' apply And.intro)) <;> (repeat (first | with_reducible assumption | ((with_reducible refine cnew0 ?_); simp; done) | ((with_reducible refine cnew1 ?_); simp; done) | (with_reducible refine akeep ?_) | (with_reducible refine dkeep ?_) | ((with_reducible refine skeep ?_ ?_); rotate_left; (first | ((try dsimp only); omega) | (simp; done) | (simp; omega))) | (with_reducible refine bkeep hb3 ?_))))
                clear hK K
                (try simp only [Act.put, List.setIfInBounds_toArray, List.set_cons_zero, List.set_cons_succ])
                refine wpAnyH_take (i := 16) (oi := ⟨_, _, _, _, _, _⟩) (v := ?_) rfl (by kernel_rfl) (by kernel_rfl) (by kernel_rfl) (fun _ _ _ h => h) (Or.inl ⟨by rfl, ?_⟩) (by assumption) ?_
                rotate_left
                · (intro w hSw; (try dsimp only at hSw); go_simp; (try with_reducible rfl))
                (try simp only [Act.put, List.setIfInBounds_toArray, List.set_cons_zero, List.set_cons_succ])
                refine wpAnyH_ready (rs := [17]) (by kernel_rfl) (by simp) ?_
                refine AllReadyH.cons (o := ⟨_, _, _, _, _, _⟩) rfl (fun K hK => ?_) AllReadyH.nil
                go_simp
                refine hK.out _ _ ?_ (fun hHeld => ?_)
                · (try dsimp only)
                  (((try go_split_ands); (try dsimp only); (repeat' apply And.intro)) <;> (repeat (first | with_reducible assumption | ((with_reducible refine cnew0 ?_); simp; done) | ((with_reducible refine cnew1 ?_); simp; done) | (with_reducible refine akeep ?_) | (with_reducible refine dkeep ?_) | ((with_reducible refine skeep ?_ ?_); rotate_left; (first | ((try dsimp only); omega) | (simp; done) | (simp; omega))) | (with_reducible refine bkeep hb3 ?_))))
                clear hK K
                (try simp only [Act.put, List.setIfInBounds_toArray, List.set_cons_zero, List.set_cons_succ])
                refine wpAnyH_done (by kernel_rfl) ?_ _
              rotate_left
              all_goals
                have hgg : wu.heap.size < gg := by
                  rcases hat5 with h | h
                  · have := own_block_ge HRW.out _ h; omega
                  · omega
                have R6 := own_set (a := ⟨wu.heap.size, 1, none⟩) hown5 (by simp [Value.ownBlock]; omega) (.slice (some ⟨gg, 0, none⟩) (m + 1) gcap)
                have B6 : Below wu.heap.size wu (w5.setCell ⟨wu.heap.size, 1, none⟩ (.slice (some ⟨gg, 0, none⟩) (m + 1) gcap)) := by (repeat (first | exact Below.refl _ _ | refine Below.setCell ?_ (by first | (simp; done) | (simp; omega) | omega) _ | refine belowN ?_ _ | refine Below.drew ?_ | refine Below.alloc ?_ (by first | (simp; done) | (simp; omega) | omega) _ | refine Below.trans ?_ (Below.mono (by assumption) (by first | (simp; done) | (simp; omega) | omega))))
                go_wp2_with fail
                go_roundw
                case rel =>
                  refine ⟨m + 1, _, by omega, by go_num, T5.put1 _, ?_, B6⟩
                  have e9 : (ren ns (tS B.ts k)).take (m + 1) = (ren ns (tS B.ts k)).take m ++ [iAt ns z.toNat] := by
                    rw [← HRE.out]
                    exact take_snoc_at _ _ (by rw [hr4]; omega)
                  rw [e9]
                  simpa using R6
                case measure => simp [intOf]; omega
            · obtain rfl : m = 4 := by omega
              have hq2 := BV
              have XZ := Lib.hid (X3.out.below (hbv.trans (hbz.mono sv)))
              have HTA := Lib.hid (HA.out.t.below (BV.trans (hbz.mono swu)))
              have hrow4 : wr.ownsRow (wu.heap.size + 1) 2 1 (.slice sx 4 sxc) (ren ns (tS B.ts k)).length ((ren ns (tS B.ts k)).map (Value.int .i64)) := by
                have := HRW.out
                rw [List.take_of_length_le (by rw [hr4]; exact Nat.le_refl _)] at this
                exact this
              obtain ⟨bs, hbs, hos⟩ := OwnAt.of_row hrow4
              have hbsl : bs < wr.heap.size := by
                rcases hos with ⟨-, h0⟩ | ⟨_, _, _, _, _, hr, _⟩
                · rw [h0] at hr4; omega
                · exact hr.lt
              have HOS := Lib.hid hos
              clear hrow4 hos y1z
              go_wp2_with fail
              refine (l02Tile_any w.heap.size _ _ A.ts (tN B.ts k) _ ⟨XZ.out.c0, XZ.out.c1⟩ HTA.out (by omega)).mono ?_
              rintro e w7 ⟨rfl, hb7⟩
              have z7 := hb7.size
              have B7 : Below wu.heap.size wu w7 := hbz.trans (hb7.mono szz)
              have HO7 := Lib.hid (HOS.out.keep (Within.of (lo := 0) (hi := 0) hb7) (.inr (Nat.zero_le _)))
              have T7 := Lib.hid (HTt.out.below hb7)
              obtain ⟨n7, s7, -, -⟩ := HTt.out.below hb7
              have U7 := Lib.hid (HT2.out.below B7)
              clear t0' t1' tz0 tz1 HTt HRW hb7
              rcases tFind_of (ts := A.ts) (tN B.ts k) with ⟨hf, hno⟩ | ⟨p, hp, hf, hnm, -⟩
              · have HF := Lib.hid hf
                rw [hf]
                clear hf hno
                go_wp2_with fail
                refine wp_region_held_drew (S := (fun w' => w'.cell? ⟨wu.heap.size, 0, none⟩ = some (.string (tN B.ts k)))) (by kernel_rfl) ?_ (fun hHeld => ?_)
                · (try dsimp only)
                  (((try go_split_ands); (try dsimp only); (repeat' apply And.intro)) <;> (repeat (first | with_reducible assumption | ((with_reducible refine cnew0 ?_); simp; done) | ((with_reducible refine cnew1 ?_); simp; done) | (with_reducible refine akeep ?_) | (with_reducible refine dkeep ?_) | ((with_reducible refine skeep ?_ ?_); rotate_left; (first | ((try dsimp only); omega) | (simp; done) | (simp; omega))) | (with_reducible refine bkeep hb3 ?_))))
                refine wpAnyH_take (i := 0) (oi := ⟨_, _, _, _, _, _⟩) (v := ?_) rfl (by kernel_rfl) (by kernel_rfl) (by kernel_rfl) (fun _ _ _ h => h) (Or.inl ⟨by rfl, ?_⟩) (by assumption) ?_
                rotate_left
                · (intro w hSw; (try dsimp only at hSw); go_simp; (try with_reducible rfl))
                (try simp only [Act.put, List.setIfInBounds_toArray, List.set_cons_zero, List.set_cons_succ])
                refine wpAnyH_take (i := 1) (oi := ⟨_, _, _, _, _, _⟩) (v := ?_) rfl (by kernel_rfl) (by kernel_rfl) (by kernel_rfl) (fun _ _ _ h => h) (Or.inl ⟨by rfl, ?_⟩) (by assumption) ?_
                rotate_left
                · (intro w hSw; (try dsimp only at hSw); go_simp; (try with_reducible rfl))
                (try simp only [Act.put, List.setIfInBounds_toArray, List.set_cons_zero, List.set_cons_succ])
                refine wpAnyH_take (i := 2) (oi := ⟨_, _, _, _, _, _⟩) (v := ?_) rfl (by kernel_rfl) (by kernel_rfl) (by kernel_rfl) (fun _ _ _ h => h) (Or.inl ⟨by rfl, ?_⟩) (by assumption) ?_
                rotate_left
                · (intro w hSw; (try dsimp only at hSw); go_simp; (try with_reducible rfl))
                (try simp only [Act.put, List.setIfInBounds_toArray, List.set_cons_zero, List.set_cons_succ])
                refine wpAnyH_take (i := 3) (oi := ⟨_, _, _, _, _, _⟩) (v := undef) rfl (by kernel_rfl) (by kernel_rfl) (by kernel_rfl) (fun _ _ _ h => h) (Or.inr ⟨by rfl, rfl⟩) (by assumption) ?_
                (try simp only [Act.put, List.setIfInBounds_toArray, List.set_cons_zero, List.set_cons_succ])
                refine wpAnyH_take (i := 4) (oi := ⟨_, _, _, _, _, _⟩) (v := undef) rfl (by kernel_rfl) (by kernel_rfl) (by kernel_rfl) (fun _ _ _ h => h) (Or.inr ⟨by rfl, rfl⟩) (by assumption) ?_
                (try simp only [Act.put, List.setIfInBounds_toArray, List.set_cons_zero, List.set_cons_succ])
                refine wpAnyH_take (i := 5) (oi := ⟨_, _, _, _, _, _⟩) (v := undef) rfl (by kernel_rfl) (by kernel_rfl) (by kernel_rfl) (fun _ _ _ h => h) (Or.inr ⟨by rfl, rfl⟩) (by assumption) ?_
                (try simp only [Act.put, List.setIfInBounds_toArray, List.set_cons_zero, List.set_cons_succ])
                refine wpAnyH_take (i := 6) (oi := ⟨_, _, _, _, _, _⟩) (v := undef) rfl (by kernel_rfl) (by kernel_rfl) (by kernel_rfl) (fun _ _ _ h => h) (Or.inr ⟨by rfl, rfl⟩) (by assumption) ?_
                (try simp only [Act.put, List.setIfInBounds_toArray, List.set_cons_zero, List.set_cons_succ])
                refine wpAnyH_take (i := 7) (oi := ⟨_, _, _, _, _, _⟩) (v := undef) rfl (by kernel_rfl) (by kernel_rfl) (by kernel_rfl) (fun _ _ _ h => h) (Or.inr ⟨by rfl, rfl⟩) (by assumption) ?_
                (try simp only [Act.put, List.setIfInBounds_toArray, List.set_cons_zero, List.set_cons_succ])
                refine wpAnyH_take (i := 8) (oi := ⟨_, _, _, _, _, _⟩) (v := undef) rfl (by kernel_rfl) (by kernel_rfl) (by kernel_rfl) (fun _ _ _ h => h) (Or.inr ⟨by rfl, rfl⟩) (by assumption) ?_
                (try simp only [Act.put, List.setIfInBounds_toArray, List.set_cons_zero, List.set_cons_succ])
                refine wpAnyH_take (i := 9) (oi := ⟨_, _, _, _, _, _⟩) (v := undef) rfl (by kernel_rfl) (by kernel_rfl) (by kernel_rfl) (fun _ _ _ h => h) (Or.inr ⟨by rfl, rfl⟩) (by assumption) ?_
                (try simp only [Act.put, List.setIfInBounds_toArray, List.set_cons_zero, List.set_cons_succ])
                refine wpAnyH_take (i := 10) (oi := ⟨_, _, _, _, _, _⟩) (v := undef) rfl (by kernel_rfl) (by kernel_rfl) (by kernel_rfl) (fun _ _ _ h => h) (Or.inr ⟨by rfl, rfl⟩) (by assumption) ?_
                (try simp only [Act.put, List.setIfInBounds_toArray, List.set_cons_zero, List.set_cons_succ])
                refine wpAnyH_take (i := 11) (oi := ⟨_, _, _, _, _, _⟩) (v := undef) rfl (by kernel_rfl) (by kernel_rfl) (by kernel_rfl) (fun _ _ _ h => h) (Or.inr ⟨by rfl, rfl⟩) (by assumption) ?_
                (try simp only [Act.put, List.setIfInBounds_toArray, List.set_cons_zero, List.set_cons_succ])
                refine wpAnyH_take (i := 12) (oi := ⟨_, _, _, _, _, _⟩) (v := undef) rfl (by kernel_rfl) (by kernel_rfl) (by kernel_rfl) (fun _ _ _ h => h) (Or.inr ⟨by rfl, rfl⟩) (by assumption) ?_
                (try simp only [Act.put, List.setIfInBounds_toArray, List.set_cons_zero, List.set_cons_succ])
                refine wpAnyH_take (i := 13) (oi := ⟨_, _, _, _, _, _⟩) (v := ?_) rfl (by kernel_rfl) (by kernel_rfl) (by kernel_rfl) (fun _ _ _ h => h) (Or.inl ⟨by rfl, ?_⟩) (by assumption) ?_
                rotate_left
                · (intro w hSw; (try dsimp only at hSw); go_simp; (try with_reducible rfl))
                (try simp only [Act.put, List.setIfInBounds_toArray, List.set_cons_zero, List.set_cons_succ])
                refine wpAnyH_done (by kernel_rfl) ?_ _
                obtain ⟨xs, hxs⟩ := built_row HB.out.built
                have HXS := Lib.hid hxs
                have z7' := B7.size
                have HX7 := Lib.hid (ownsRow_keep hxs B7)
                obtain ⟨u70, u71, uz0, uz1⟩ := U7.out
                have hlu : w3.heap.size < w7.heap.size := U7.out.lt
                have hnc0 : (Value.slice xa nn xc).ownBlock ≠ some w3.heap.size := let ⟨_, _, _, _, _, _, _, h⟩ := HB.out; h
                have hneX : some w3.heap.size ≠ (Value.slice xa nn xc).ownBlock := fun e => hnc0 e.symm
                clear hxs
                go_wp2_with (at_builtin; go_must (refine wpList_append_lies _ rfl _ _ 28 rfl mm 64 t0 _ 2 40 Try.underlying28 hti hx0 hx1 hx2 rfl (by omega) (.slice xa nn xc) nn xs rfl (ownsRow_keep HX7.out (show Below w7.heap.size w7 _ by (repeat (first | exact Below.refl _ _ | refine Below.setCell ?_ (by first | (simp; done) | (simp; omega) | omega) _ | refine belowN ?_ _ | refine Below.drew ?_ | refine Below.alloc ?_ (by first | (simp; done) | (simp; omega) | omega) _ | refine Below.trans ?_ (Below.mono (by assumption) (by first | (simp; done) | (simp; omega) | omega)))))) ⟨w7.heap.size, 0, none⟩ 1 1 [.string (tN B.ts k), .slice sx 4 sxc] rfl rfl (World.news_of_block (cs := #[.string (tN B.ts k), .slice sx 4 sxc]) (t := 64) (fr := (0, 0)) (heap_alloc_new w7 _)) (by simp [Value.oneCell']) (by omega) (maxLen_of (by omega)) (by omega) (by first | (simp; done) | (simp; omega) | omega) (w7.heap.size + 1) (by simp) ?_); intro gg gcap w8 hown8 hgrow8 hat8 hlt8; have T8 := Two.grown ((U7.out.alloc (.cells #[.string (tN B.ts k), .slice sx 4 sxc] 64)).drew) hgrow8 hneX; have e8 := T8.c1; have f8 := T8.z1; have l8 := T8.lt)
                have hin := mT_in (us := B.ts) (ns := ns) HF.out
                have hlast : tN (mT A.ts B.ts ns (k + 1)) nn = tN B.ts k ∧ tS (mT A.ts B.ts ns (k + 1)) nn = ren ns (tS B.ts k) := by
                  rw [hin, ← HNN.out]; exact tN_snoc_last _ _
                have hlen : (mT A.ts B.ts ns (k + 1)).length = nn + 1 := by rw [hin, ← HNN.out]; simp
                have hbef : ∀ i, i < nn → tN (mT A.ts B.ts ns k) i = tN (mT A.ts B.ts ns (k + 1)) i ∧ tS (mT A.ts B.ts ns k) i = tS (mT A.ts B.ts ns (k + 1)) i := fun i hi => by
                  rw [hin]
                  exact ⟨(tN_snoc_lt _ _ (by rw [HNN.out]; exact hi)).1.symm, (tN_snoc_lt _ _ (by rw [HNN.out]; exact hi)).2.symm⟩
                obtain ⟨R1, hgc⟩ := BuiltX.more (N := tN (mT A.ts B.ts ns (k + 1))) (Z := tS (mT A.ts B.ts ns (k + 1))) HB.out hlT2 B7 HO7.out (by omega) (by omega) (by omega) (fun ys hy => own_uniq HXS.out hy) hown8 hgrow8 hat8 hlast.1 hlast.2 (fun i hi => (hbef i hi).1) (fun i hi => (hbef i hi).2)
                have A8 : Below wu.heap.size wu (w7.alloc (.cells #[.string (tN B.ts k), .slice sx 4 sxc] 64)).drew := (B7.alloc z7' _).drew
                have V8 : Below w2.heap.size w2 w8 := Below.grown (hbv.trans (A8.mono sv)) hgrow8 (by have := A8.size; omega) (fun j hj => by have := own_block_ge HXS.out j hj; omega)
                have S8 := (HRS.out.below A8).grow (ownsRow_keep HXS.out A8) hgrow8
                have V9 : Below w2.heap.size w2 (w8.setCell ⟨w3.heap.size, 1, none⟩ (.slice (some ⟨gg, 0, none⟩) (nn + 1) gcap)) := by (repeat (first | exact Below.refl _ _ | refine Below.setCell ?_ (by first | (simp; done) | (simp; omega) | omega) _ | refine belowN ?_ _ | refine Below.drew ?_ | refine Below.alloc ?_ (by first | (simp; done) | (simp; omega) | omega) _ | refine Below.trans ?_ (Below.mono (by assumption) (by first | (simp; done) | (simp; omega) | omega))))
                go_roundw
                case rel =>
                  refine ⟨k + 1, _, by omega, by go_num, Lib.hid (tAgree_succ hag.out fun ⟨q, _, hq, _⟩ => by have := HF.out; omega), T8.put1 _, Lib.hid ?_, Lib.hid (S8.set (.inr rfl) _), V9⟩
                  rw [hlen]
                  exact R1.set rfl _
                case measure => simp [intOf]; omega
              · have HF := Lib.hid hf
                rw [hf]
                obtain ⟨ba, oa, capa, hva, -, -, hca⟩ := tiles_open HA.out.t (by omega)
                have hsda := PA.out.sides hp
                obtain ⟨b3, o3, c3, a0, a1, h43, hm3, ha3⟩ := hca p hp hsda
                simp at hva
                obtain ⟨rfl, rfl⟩ := hva
                have W7 : Below w.heap.size w w7 := BV.trans (B7.mono swu)
                have a1 := cell_below W7 a1
                have HIa : Hid (Ints w7 (.slice (some ⟨b3, o3, none⟩) 4 c3) (tS A.ts p)) := Lib.hid ⟨_, c3, by rw [hsda], by omega, hm3, fun _ => ⟨b3, o3, rfl, fun i j hi hj => by
                  obtain rfl : j = 0 := by omega
                  simpa using cell_below W7 (ha3 i (by omega))⟩⟩
                obtain ⟨xx0, xx1, -, -⟩ := X3.out.below (hbv.trans (B7.mono sv))
                have hpi : (p : Int) < A.ts.length := by omega
                clear hf hnm hca ha3 a0
                by_cases he : tS A.ts p = ren ns (tS B.ts k)
                · go_wp2_with fail
                  refine wp_region_held_drew (S := (fun w' => w'.cell? ⟨w.heap.size, 1, none⟩ = some (.slice (some ⟨ba, oa, none⟩) A.ts.length tacap) ∧ w'.cell? ⟨ba, oa + p * 2 + 1, none⟩ = some (.slice (some ⟨b3, o3, none⟩) 4 c3) ∧ w'.cell? ⟨wu.heap.size, 1, none⟩ = some (.slice sx 4 sxc))) (by kernel_rfl) ?_ (fun hHeld => ?_)
                  · (try dsimp only)
                    (((try go_split_ands); (try dsimp only); (repeat' apply And.intro)) <;> (repeat (first | with_reducible assumption | ((with_reducible refine cnew0 ?_); simp; done) | ((with_reducible refine cnew1 ?_); simp; done) | (with_reducible refine akeep ?_) | (with_reducible refine dkeep ?_) | ((with_reducible refine skeep ?_ ?_); rotate_left; (first | ((try dsimp only); omega) | (simp; done) | (simp; omega))) | (with_reducible refine bkeep hb3 ?_))))
                  refine wpAnyH_take (i := 0) (oi := ⟨_, _, _, _, _, _⟩) (v := ?_) rfl (by kernel_rfl) (by kernel_rfl) (by kernel_rfl) (fun _ _ _ h => h) (Or.inl ⟨by rfl, ?_⟩) (by assumption) ?_
                  rotate_left
                  · (intro w hSw; (try dsimp only at hSw); go_simp; (try with_reducible rfl))
                  (try simp only [Act.put, List.setIfInBounds_toArray, List.set_cons_zero, List.set_cons_succ])
                  refine wpAnyH_take (i := 1) (oi := ⟨_, _, _, _, _, _⟩) (v := ?_) rfl (by kernel_rfl) (by kernel_rfl) (by kernel_rfl) (fun _ _ _ h => h) (Or.inl ⟨by rfl, ?_⟩) (by assumption) ?_
                  rotate_left
                  · (intro w hSw; (try dsimp only at hSw); go_simp; (try with_reducible rfl))
                  (try simp only [Act.put, List.setIfInBounds_toArray, List.set_cons_zero, List.set_cons_succ])
                  refine wpAnyH_take (i := 2) (oi := ⟨_, _, _, _, _, _⟩) (v := ?_) rfl (by kernel_rfl) (by kernel_rfl) (by kernel_rfl) (fun _ _ _ h => h) (Or.inl ⟨by rfl, ?_⟩) (by assumption) ?_
                  rotate_left
                  · (intro w hSw; (try dsimp only at hSw); go_simp; (try with_reducible rfl))
                  (try simp only [Act.put, List.setIfInBounds_toArray, List.set_cons_zero, List.set_cons_succ])
                  refine wpAnyH_take (i := 3) (oi := ⟨_, _, _, _, _, _⟩) (v := ?_) rfl (by kernel_rfl) (by kernel_rfl) (by kernel_rfl) (fun _ _ _ h => h) (Or.inl ⟨by rfl, ?_⟩) (by assumption) ?_
                  rotate_left
                  · (intro w hSw; (try dsimp only at hSw); go_simp; (try with_reducible rfl))
                  (try simp only [Act.put, List.setIfInBounds_toArray, List.set_cons_zero, List.set_cons_succ])
                  refine wpAnyH_take (i := 4) (oi := ⟨_, _, _, _, _, _⟩) (v := ?_) rfl (by kernel_rfl) (by kernel_rfl) (by kernel_rfl) (fun _ _ _ h => h) (Or.inl ⟨by rfl, ?_⟩) (by assumption) ?_
                  rotate_left
                  · (intro w hSw; (try dsimp only at hSw); go_simp; (try with_reducible rfl))
                  (try simp only [Act.put, List.setIfInBounds_toArray, List.set_cons_zero, List.set_cons_succ])
                  refine wpAnyH_take (i := 5) (oi := ⟨_, _, _, _, _, _⟩) (v := ?_) rfl (by kernel_rfl) (by kernel_rfl) (by kernel_rfl) (fun _ _ _ h => h) (Or.inl ⟨by rfl, ?_⟩) (by assumption) ?_
                  rotate_left
                  · (intro w hSw; (try dsimp only at hSw); go_simp; (try with_reducible rfl))
                  (try simp only [Act.put, List.setIfInBounds_toArray, List.set_cons_zero, List.set_cons_succ])
                  refine wpAnyH_take (i := 6) (oi := ⟨_, _, _, _, _, _⟩) (v := ?_) rfl (by kernel_rfl) (by kernel_rfl) (by kernel_rfl) (fun _ _ _ h => h) (Or.inl ⟨by rfl, ?_⟩) (by assumption) ?_
                  rotate_left
                  · (intro w hSw; (try dsimp only at hSw); go_simp; (try with_reducible rfl))
                  (try simp only [Act.put, List.setIfInBounds_toArray, List.set_cons_zero, List.set_cons_succ])
                  refine wpAnyH_take (i := 7) (oi := ⟨_, _, _, _, _, _⟩) (v := ?_) rfl (by kernel_rfl) (by kernel_rfl) (by kernel_rfl) (fun _ _ _ h => h) (Or.inl ⟨by rfl, ?_⟩) (by assumption) ?_
                  rotate_left
                  · (intro w hSw; (try dsimp only at hSw); go_simp; (try with_reducible rfl))
                  (try simp only [Act.put, List.setIfInBounds_toArray, List.set_cons_zero, List.set_cons_succ])
                  refine wpAnyH_take (i := 8) (oi := ⟨_, _, _, _, _, _⟩) (v := ?_) rfl (by kernel_rfl) (by kernel_rfl) (by kernel_rfl) (fun _ _ _ h => h) (Or.inl ⟨by rfl, ?_⟩) (by assumption) ?_
                  rotate_left
                  · (intro w hSw; (try dsimp only at hSw); go_simp; (try with_reducible rfl))
                  (try simp only [Act.put, List.setIfInBounds_toArray, List.set_cons_zero, List.set_cons_succ])
                  refine wpAnyH_take (i := 9) (oi := ⟨_, _, _, _, _, _⟩) (v := ?_) rfl (by kernel_rfl) (by kernel_rfl) (by kernel_rfl) (fun _ _ _ h => h) (Or.inl ⟨by rfl, ?_⟩) (by assumption) ?_
                  rotate_left
                  · (intro w hSw; (try dsimp only at hSw); go_simp; (try with_reducible rfl))
                  (try simp only [Act.put, List.setIfInBounds_toArray, List.set_cons_zero, List.set_cons_succ])
                  refine wpAnyH_take (i := 10) (oi := ⟨_, _, _, _, _, _⟩) (v := ?_) rfl (by kernel_rfl) (by kernel_rfl) (by kernel_rfl) (fun _ _ _ h => h) (Or.inl ⟨by rfl, ?_⟩) (by assumption) ?_
                  rotate_left
                  · (intro w hSw; (try dsimp only at hSw); go_simp; (try with_reducible rfl))
                  (try simp only [Act.put, List.setIfInBounds_toArray, List.set_cons_zero, List.set_cons_succ])
                  refine wpAnyH_ready (rs := [11]) (by kernel_rfl) (by simp) ?_
                  refine AllReadyH.cons (o := ⟨_, _, _, _, _, _⟩) rfl (fun K hK => ?_) AllReadyH.nil
                  go_simp
                  (go_at_call 35; refine (l00Same_any _ _ (tS A.ts p) (ren ns (tS B.ts k)) _ (HIa.out.below (by (repeat (first | exact Below.refl _ _ | refine Below.setCell ?_ (by first | (simp; done) | (simp; omega) | omega) _ | refine belowN ?_ _ | refine Below.drew ?_ | refine Below.alloc ?_ (by first | (simp; done) | (simp; omega) | omega) _ | refine Below.trans ?_ (Below.mono (by assumption) (by first | (simp; done) | (simp; omega) | omega)))))) (HO7.out.ints.below (by (repeat (first | exact Below.refl _ _ | refine Below.setCell ?_ (by first | (simp; done) | (simp; omega) | omega) _ | refine belowN ?_ _ | refine Below.drew ?_ | refine Below.alloc ?_ (by first | (simp; done) | (simp; omega) | omega) _ | refine Below.trans ?_ (Below.mono (by assumption) (by first | (simp; done) | (simp; omega) | omega))))))).mono ?_; rintro e w8 ⟨rfl, hdr⟩; rw [sameI_yes he]; have hb3 := hdr.below)
                  refine hK.out _ _ ?_ (fun hHeld => ?_)
                  · (try dsimp only)
                    (((try go_split_ands); (try dsimp only); (repeat' apply And.intro)) <;> (repeat (first | with_reducible assumption | ((with_reducible refine cnew0 ?_); simp; done) | ((with_reducible refine cnew1 ?_); simp; done) | (with_reducible refine akeep ?_) | (with_reducible refine dkeep ?_) | ((with_reducible refine skeep ?_ ?_); rotate_left; (first | ((try dsimp only); omega) | (simp; done) | (simp; omega))) | (with_reducible refine bkeep hb3 ?_))))
                  clear hK K
                  (try simp only [Act.put, List.setIfInBounds_toArray, List.set_cons_zero, List.set_cons_succ])
                  refine wpAnyH_take (i := 12) (oi := ⟨_, _, _, _, _, _⟩) (v := ?_) rfl (by kernel_rfl) (by kernel_rfl) (by kernel_rfl) (fun _ _ _ h => h) (Or.inl ⟨by rfl, ?_⟩) (by assumption) ?_
                  rotate_left
                  · (intro w hSw; (try dsimp only at hSw); go_simp; (try with_reducible rfl))
                  (try simp only [Act.put, List.setIfInBounds_toArray, List.set_cons_zero, List.set_cons_succ])
                  refine wpAnyH_take (i := 13) (oi := ⟨_, _, _, _, _, _⟩) (v := ?_) rfl (by kernel_rfl) (by kernel_rfl) (by kernel_rfl) (fun _ _ _ h => h) (Or.inl ⟨by rfl, ?_⟩) (by assumption) ?_
                  rotate_left
                  · (intro w hSw; (try dsimp only at hSw); go_simp; (try with_reducible rfl))
                  (try simp only [Act.put, List.setIfInBounds_toArray, List.set_cons_zero, List.set_cons_succ])
                  refine wpAnyH_done (by kernel_rfl) ?_ _
                  have W8 : Below w7.heap.size w7 w8 := by (repeat (first | exact Below.refl _ _ | refine Below.setCell ?_ (by first | (simp; done) | (simp; omega) | omega) _ | refine belowN ?_ _ | refine Below.drew ?_ | refine Below.alloc ?_ (by first | (simp; done) | (simp; omega) | omega) _ | refine Below.trans ?_ (Below.mono (by assumption) (by first | (simp; done) | (simp; omega) | omega))))
                  have V8 : Below wu.heap.size wu w8 := B7.trans (W8.mono B7.size)
                  go_wp2_with fail
                  go_roundw
                  case rel =>
                    refine ⟨k + 1, _, by omega, by go_num, Lib.hid (tAgree_succ hag.out fun ⟨q, _, hq, hne⟩ => ?_), HT2.out.below V8, Lib.hid ?_, Lib.hid (HRS.out.below V8), hbv.trans (V8.mono sv)⟩
                    · have h1 := HF.out
                      obtain rfl : q = p := by omega
                      exact hne he
                    · rw [mT_out (by have := HF.out; omega), HNN.out]
                      exact HB.out.keep V8
                  case measure => simp [intOf]; omega
                · have K := Lib.hid (show ¬ tAgree A.ts B.ts ns B.ts.length from fun h => h k hlt ⟨p, hp, HF.out, he⟩)
                  go_wp2_with fail
                  refine wp_region_held_drew (S := (fun w' => w'.cell? ⟨w.heap.size, 1, none⟩ = some (.slice (some ⟨ba, oa, none⟩) A.ts.length tacap) ∧ w'.cell? ⟨ba, oa + p * 2 + 1, none⟩ = some (.slice (some ⟨b3, o3, none⟩) 4 c3) ∧ w'.cell? ⟨wu.heap.size, 1, none⟩ = some (.slice sx 4 sxc))) (by kernel_rfl) ?_ (fun hHeld => ?_)
                  · (try dsimp only)
                    (((try go_split_ands); (try dsimp only); (repeat' apply And.intro)) <;> (repeat (first | with_reducible assumption | ((with_reducible refine cnew0 ?_); simp; done) | ((with_reducible refine cnew1 ?_); simp; done) | (with_reducible refine akeep ?_) | (with_reducible refine dkeep ?_) | ((with_reducible refine skeep ?_ ?_); rotate_left; (first | ((try dsimp only); omega) | (simp; done) | (simp; omega))) | (with_reducible refine bkeep hb3 ?_))))
                  refine wpAnyH_take (i := 0) (oi := ⟨_, _, _, _, _, _⟩) (v := ?_) rfl (by kernel_rfl) (by kernel_rfl) (by kernel_rfl) (fun _ _ _ h => h) (Or.inl ⟨by rfl, ?_⟩) (by assumption) ?_
                  rotate_left
                  · (intro w hSw; (try dsimp only at hSw); go_simp; (try with_reducible rfl))
                  (try simp only [Act.put, List.setIfInBounds_toArray, List.set_cons_zero, List.set_cons_succ])
                  refine wpAnyH_take (i := 1) (oi := ⟨_, _, _, _, _, _⟩) (v := ?_) rfl (by kernel_rfl) (by kernel_rfl) (by kernel_rfl) (fun _ _ _ h => h) (Or.inl ⟨by rfl, ?_⟩) (by assumption) ?_
                  rotate_left
                  · (intro w hSw; (try dsimp only at hSw); go_simp; (try with_reducible rfl))
                  (try simp only [Act.put, List.setIfInBounds_toArray, List.set_cons_zero, List.set_cons_succ])
                  refine wpAnyH_take (i := 2) (oi := ⟨_, _, _, _, _, _⟩) (v := ?_) rfl (by kernel_rfl) (by kernel_rfl) (by kernel_rfl) (fun _ _ _ h => h) (Or.inl ⟨by rfl, ?_⟩) (by assumption) ?_
                  rotate_left
                  · (intro w hSw; (try dsimp only at hSw); go_simp; (try with_reducible rfl))
                  (try simp only [Act.put, List.setIfInBounds_toArray, List.set_cons_zero, List.set_cons_succ])
                  refine wpAnyH_take (i := 3) (oi := ⟨_, _, _, _, _, _⟩) (v := ?_) rfl (by kernel_rfl) (by kernel_rfl) (by kernel_rfl) (fun _ _ _ h => h) (Or.inl ⟨by rfl, ?_⟩) (by assumption) ?_
                  rotate_left
                  · (intro w hSw; (try dsimp only at hSw); go_simp; (try with_reducible rfl))
                  (try simp only [Act.put, List.setIfInBounds_toArray, List.set_cons_zero, List.set_cons_succ])
                  refine wpAnyH_take (i := 4) (oi := ⟨_, _, _, _, _, _⟩) (v := ?_) rfl (by kernel_rfl) (by kernel_rfl) (by kernel_rfl) (fun _ _ _ h => h) (Or.inl ⟨by rfl, ?_⟩) (by assumption) ?_
                  rotate_left
                  · (intro w hSw; (try dsimp only at hSw); go_simp; (try with_reducible rfl))
                  (try simp only [Act.put, List.setIfInBounds_toArray, List.set_cons_zero, List.set_cons_succ])
                  refine wpAnyH_take (i := 5) (oi := ⟨_, _, _, _, _, _⟩) (v := ?_) rfl (by kernel_rfl) (by kernel_rfl) (by kernel_rfl) (fun _ _ _ h => h) (Or.inl ⟨by rfl, ?_⟩) (by assumption) ?_
                  rotate_left
                  · (intro w hSw; (try dsimp only at hSw); go_simp; (try with_reducible rfl))
                  (try simp only [Act.put, List.setIfInBounds_toArray, List.set_cons_zero, List.set_cons_succ])
                  refine wpAnyH_take (i := 6) (oi := ⟨_, _, _, _, _, _⟩) (v := ?_) rfl (by kernel_rfl) (by kernel_rfl) (by kernel_rfl) (fun _ _ _ h => h) (Or.inl ⟨by rfl, ?_⟩) (by assumption) ?_
                  rotate_left
                  · (intro w hSw; (try dsimp only at hSw); go_simp; (try with_reducible rfl))
                  (try simp only [Act.put, List.setIfInBounds_toArray, List.set_cons_zero, List.set_cons_succ])
                  refine wpAnyH_take (i := 7) (oi := ⟨_, _, _, _, _, _⟩) (v := ?_) rfl (by kernel_rfl) (by kernel_rfl) (by kernel_rfl) (fun _ _ _ h => h) (Or.inl ⟨by rfl, ?_⟩) (by assumption) ?_
                  rotate_left
                  · (intro w hSw; (try dsimp only at hSw); go_simp; (try with_reducible rfl))
                  (try simp only [Act.put, List.setIfInBounds_toArray, List.set_cons_zero, List.set_cons_succ])
                  refine wpAnyH_take (i := 8) (oi := ⟨_, _, _, _, _, _⟩) (v := ?_) rfl (by kernel_rfl) (by kernel_rfl) (by kernel_rfl) (fun _ _ _ h => h) (Or.inl ⟨by rfl, ?_⟩) (by assumption) ?_
                  rotate_left
                  · (intro w hSw; (try dsimp only at hSw); go_simp; (try with_reducible rfl))
                  (try simp only [Act.put, List.setIfInBounds_toArray, List.set_cons_zero, List.set_cons_succ])
                  refine wpAnyH_take (i := 9) (oi := ⟨_, _, _, _, _, _⟩) (v := ?_) rfl (by kernel_rfl) (by kernel_rfl) (by kernel_rfl) (fun _ _ _ h => h) (Or.inl ⟨by rfl, ?_⟩) (by assumption) ?_
                  rotate_left
                  · (intro w hSw; (try dsimp only at hSw); go_simp; (try with_reducible rfl))
                  (try simp only [Act.put, List.setIfInBounds_toArray, List.set_cons_zero, List.set_cons_succ])
                  refine wpAnyH_take (i := 10) (oi := ⟨_, _, _, _, _, _⟩) (v := ?_) rfl (by kernel_rfl) (by kernel_rfl) (by kernel_rfl) (fun _ _ _ h => h) (Or.inl ⟨by rfl, ?_⟩) (by assumption) ?_
                  rotate_left
                  · (intro w hSw; (try dsimp only at hSw); go_simp; (try with_reducible rfl))
                  (try simp only [Act.put, List.setIfInBounds_toArray, List.set_cons_zero, List.set_cons_succ])
                  refine wpAnyH_ready (rs := [11]) (by kernel_rfl) (by simp) ?_
                  refine AllReadyH.cons (o := ⟨_, _, _, _, _, _⟩) rfl (fun K hK => ?_) AllReadyH.nil
                  go_simp
                  (go_at_call 35; refine (l00Same_any _ _ (tS A.ts p) (ren ns (tS B.ts k)) _ (HIa.out.below (by (repeat (first | exact Below.refl _ _ | refine Below.setCell ?_ (by first | (simp; done) | (simp; omega) | omega) _ | refine belowN ?_ _ | refine Below.drew ?_ | refine Below.alloc ?_ (by first | (simp; done) | (simp; omega) | omega) _ | refine Below.trans ?_ (Below.mono (by assumption) (by first | (simp; done) | (simp; omega) | omega)))))) (HO7.out.ints.below (by (repeat (first | exact Below.refl _ _ | refine Below.setCell ?_ (by first | (simp; done) | (simp; omega) | omega) _ | refine belowN ?_ _ | refine Below.drew ?_ | refine Below.alloc ?_ (by first | (simp; done) | (simp; omega) | omega) _ | refine Below.trans ?_ (Below.mono (by assumption) (by first | (simp; done) | (simp; omega) | omega))))))).mono ?_; rintro e w8 ⟨rfl, hdr⟩; rw [sameI_no he]; have hb3 := hdr.below)
                  refine hK.out _ _ ?_ (fun hHeld => ?_)
                  · (try dsimp only)
                    (((try go_split_ands); (try dsimp only); (repeat' apply And.intro)) <;> (repeat (first | with_reducible assumption | ((with_reducible refine cnew0 ?_); simp; done) | ((with_reducible refine cnew1 ?_); simp; done) | (with_reducible refine akeep ?_) | (with_reducible refine dkeep ?_) | ((with_reducible refine skeep ?_ ?_); rotate_left; (first | ((try dsimp only); omega) | (simp; done) | (simp; omega))) | (with_reducible refine bkeep hb3 ?_))))
                  clear hK K
                  (try simp only [Act.put, List.setIfInBounds_toArray, List.set_cons_zero, List.set_cons_succ])
                  refine wpAnyH_take (i := 12) (oi := ⟨_, _, _, _, _, _⟩) (v := ?_) rfl (by kernel_rfl) (by kernel_rfl) (by kernel_rfl) (fun _ _ _ h => h) (Or.inl ⟨by rfl, ?_⟩) (by assumption) ?_
                  rotate_left
                  · (intro w hSw; (try dsimp only at hSw); go_simp; (try with_reducible rfl))
                  (try simp only [Act.put, List.setIfInBounds_toArray, List.set_cons_zero, List.set_cons_succ])
                  refine wpAnyH_take (i := 13) (oi := ⟨_, _, _, _, _, _⟩) (v := ?_) rfl (by kernel_rfl) (by kernel_rfl) (by kernel_rfl) (fun _ _ _ h => h) (Or.inl ⟨by rfl, ?_⟩) (by assumption) ?_
                  rotate_left
                  · (intro w hSw; (try dsimp only at hSw); go_simp; (try with_reducible rfl))
                  (try simp only [Act.put, List.setIfInBounds_toArray, List.set_cons_zero, List.set_cons_succ])
                  refine wpAnyH_done (by kernel_rfl) ?_ _
                  have W8 : Below w7.heap.size w7 w8 := by (repeat (first | exact Below.refl _ _ | refine Below.setCell ?_ (by first | (simp; done) | (simp; omega) | omega) _ | refine belowN ?_ _ | refine Below.drew ?_ | refine Below.alloc ?_ (by first | (simp; done) | (simp; omega) | omega) _ | refine Below.trans ?_ (Below.mono (by assumption) (by first | (simp; done) | (simp; omega) | omega))))
                  have V8 : Below w2.heap.size w2 w8 := hbv.trans ((B7.trans (W8.mono B7.size)).mono sv)
                  have s8 := V8.size
                  have K7 := Lib.hid (HMC.out K.out)
                  obtain ⟨x0, x1, xz0, xz1⟩ := Z3.out.below V8
                  go_wp2_with fail
                  refine bodyPost_ret (v := .tuple #[.agg #[.slice none 0 0, .slice none 0 0], .int .i64 7]) ?_ rfl ⟨row_nil (meS_no K7.out (by decide)) K7.out.symm, by (repeat (first | exact Below.refl _ _ | refine Below.setCell ?_ (by first | (simp; done) | (simp; omega) | omega) _ | refine belowN ?_ _ | refine Below.drew ?_ | refine Below.alloc ?_ (by first | (simp; done) | (simp; omega) | omega) _ | refine Below.trans ?_ (Below.mono (by assumption) (by first | (simp; done) | (simp; omega) | omega))))⟩
                  simp [results, Try.results8, go_sem, x0, x1, xz0, xz1]
        · obtain rfl : k = B.ts.length := by omega
          have EG := Lib.hid (show (mS A B).gs = mG A.gs B.gs B.gs.length by rw [HMM.out])
          have ET := Lib.hid (show (mS A B).ts = mT A.ts B.ts ns B.ts.length by rw [HMM.out])
          have RGW := HRS.out.row HRG.out (by decide) hgn.out
          have GW := (OwnGs.of_row (gs := (mS A B).gs) (by rw [EG.out]; exact RGW)).glues
          have TW := (Built.ts (ts := (mS A B).ts) (by rw [ET.out, HNN.out]; exact HB.out.built)).tiles
          have hgl0 := mNew_len A.gs B.gs B.gs.length
          have hgl1 : (mS A B).gs.length ≤ 400 := by rw [EG.out]; simp [mG]; omega
          have htl1 : (mS A B).ts.length ≤ 2000 := by rw [ET.out, HNN.out]; exact hnn2
          have SW : Hid (SetIn wr (.slice gx (mG A.gs B.gs B.gs.length).length gxc) (.slice xa nn xc) (mS A B)) := Lib.hid ⟨GW, TW⟩
          have OKM := Lib.hid (mS_ok oka okb PA.out PB.out (by omega))
          have SMM := Lib.hid (mS_small sa sb (by omega) (by omega))
          have HVM := Lib.hid (mS_valid PA.out PB.out)
          have ZW := Lib.hid (Z3.out.below hbv)
          have HRGW := Lib.hid RGW
          clear GW TW RGW hgl0
          go_wp2_with fail
          refine (l02Ok_any w3.heap.size _ _ (mS A B) _ ⟨HT2.out.c0, HT2.out.c1⟩ SW.out OKM.out SMM.out).mono ?_
          rintro e w9 ⟨rfl, hb9⟩
          have V9 : Below w2.heap.size w2 w9 := hbv.trans (hb9.mono sv)
          have s9 := V9.size
          obtain ⟨x0, x1, xz0, xz1⟩ := ZW.out.below hb9
          obtain ⟨e0, e1, -, -⟩ := HT2.out.below hb9
          have SW9 := Lib.hid (SW.out.below hb9)
          have H4 := Lib.hid (HM4.out hag.out)
          have RG9 := Lib.hid (ownsRow_keep HRGW.out hb9)
          have BT9 := Lib.hid (HB.out.built.keep hb9)
          cases hv : validB (mS A B)
          · have K := Lib.hid (show meC A B = 4 by
              rw [H4.out]
              have : ¬ Valid (mS A B) := fun h => by rw [validB_iff.2 h] at hv; exact absurd hv (by decide)
              rw [HVM.out] at this
              rw [if_pos (by omega)])
            go_wp2_with fail
            refine bodyPost_ret (v := .tuple #[.agg #[.slice none 0 0, .slice none 0 0], .int .i64 4]) ?_ rfl ⟨row_nil (meS_no K.out (by decide)) K.out.symm, by (repeat (first | exact Below.refl _ _ | refine Below.setCell ?_ (by first | (simp; done) | (simp; omega) | omega) _ | refine belowN ?_ _ | refine Below.drew ?_ | refine Below.alloc ?_ (by first | (simp; done) | (simp; omega) | omega) _ | refine Below.trans ?_ (Below.mono (by assumption) (by first | (simp; done) | (simp; omega) | omega))))⟩
            simp [results, Try.results8, go_sem, x0, x1, xz0, xz1]
          · have K := Lib.hid (show meC A B = 0 by
              rw [H4.out]
              have := HVM.out.1 (validB_iff.1 hv)
              rw [if_neg (by omega)])
            go_wp2_with fail
            refine bodyPost_ret (v := .tuple #[.agg #[.slice gx (mG A.gs B.gs B.gs.length).length gxc, .slice xa nn xc], .int .i64 0]) ?_ rfl ⟨⟨_, _, by rw [K.out], ?_⟩, by (repeat (first | exact Below.refl _ _ | refine Below.setCell ?_ (by first | (simp; done) | (simp; omega) | omega) _ | refine belowN ?_ _ | refine Below.drew ?_ | refine Below.alloc ?_ (by first | (simp; done) | (simp; omega) | omega) _ | refine Below.trans ?_ (Below.mono (by assumption) (by first | (simp; done) | (simp; omega) | omega))))⟩
            · simp [results, Try.results8, go_sem, x0, x1, xz0, xz1]
            · rw [meS_yes K.out]
              have RGX := ownsRow_setCell_below (a := ⟨w.heap.size + 1 + 1, 1, none⟩) (ownsRow_setCell_below (a := ⟨w.heap.size + 1 + 1, 0, none⟩) RG9.out (by dsimp only; omega) (.slice gx (mG A.gs B.gs B.gs.length).length gxc)) (by dsimp only; omega) (.slice xa nn xc)
              have BTX := (BT9.out.set (a := ⟨w.heap.size + 1 + 1, 0, none⟩) (by dsimp only; omega) (.slice gx (mG A.gs B.gs B.gs.length).length gxc)).set (a := ⟨w.heap.size + 1 + 1, 1, none⟩) (by dsimp only; omega) (.slice xa nn xc)
              exact ⟨w2.heap.size + 1, mm, by omega, by omega, by rw [EG.out]; exact RGX, by rw [ET.out, HNN.out]; exact BTX⟩

end Go.Proofs.Ytggpmailkkpdaaa
