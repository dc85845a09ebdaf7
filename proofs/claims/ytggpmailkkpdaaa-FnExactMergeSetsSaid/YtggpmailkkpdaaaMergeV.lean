/-
  Merged valid sets are valid but for their sizes. Conditions: each lemma's own.
-/
import Derived.Test.YtggpmailkkpdaaaMergeTI
namespace Go.Proofs.Ytggpmailkkpdaaa
open Go.RowKit

theorem gN_snoc_lt (xs : List Gl) (t : Gl) {i : Nat} (h : i < xs.length) : gN (xs ++ [t]) i = gN xs i ∧ gS (xs ++ [t]) i = gS xs i := by
  simp [gN, gS, List.getElem?_append_left h]
theorem gN_snoc_last (xs : List Gl) (t : Gl) : gN (xs ++ [t]) xs.length = t.name ∧ gS (xs ++ [t]) xs.length = t.str := by
  simp [gN, gS]
theorem gOk_snoc {xs : List Gl} {t : Gl} (h : ∀ i, i < xs.length → gOk xs i) (h1 : nameB t.name = true) (h2 : 1 ≤ t.str ∧ t.str ≤ 4) (h3 : ∀ j, j < xs.length → gN xs j ≠ t.name) : ∀ i, i < (xs ++ [t]).length → gOk (xs ++ [t]) i := by
  intro i hi
  by_cases hlt : i < xs.length
  · obtain ⟨a, b, c⟩ := h i hlt
    have e := gN_snoc_lt xs t hlt
    exact ⟨by rw [e.1]; exact a, by rw [e.2]; exact b, fun j hj => by rw [e.1, (gN_snoc_lt xs t (Nat.lt_trans hj hlt)).1]; exact c j hj⟩
  · obtain rfl : i = xs.length := by simp at hi; omega
    have e := gN_snoc_last xs t
    exact ⟨by rw [e.1]; exact h1, by rw [e.2]; exact h2, fun j hj => by rw [e.1, (gN_snoc_lt xs t hj).1]; exact h3 j hj⟩
theorem tOk_snoc {xs : List Tl} {t : Tl} {n : Nat} (h : ∀ i, i < xs.length → tOk xs n i) (h1 : nameB t.name = true) (h2 : sidesOk t.sides n) (h3 : ∀ j, j < xs.length → tN xs j ≠ t.name) : ∀ i, i < (xs ++ [t]).length → tOk (xs ++ [t]) n i := by
  intro i hi
  by_cases hlt : i < xs.length
  · obtain ⟨a, b, c⟩ := h i hlt
    have e := tN_snoc_lt xs t hlt
    exact ⟨by rw [e.1]; exact a, by rw [e.2]; exact b, fun j hj => by rw [e.1, (tN_snoc_lt xs t (Nat.lt_trans hj hlt)).1]; exact c j hj⟩
  · obtain rfl : i = xs.length := by simp at hi; omega
    have e := tN_snoc_last xs t
    exact ⟨by rw [e.1]; exact h1, by rw [e.2]; exact h2, fun j hj => by rw [e.1, (tN_snoc_lt xs t hj).1]; exact h3 j hj⟩

theorem gFind_zero {gs : List Gl} {s : ByteArray} (h : gFind gs s = 0) : ∀ j, j < gs.length → gN gs j ≠ s := by
  rcases gFind_of (gs := gs) s with ⟨-, h2⟩ | ⟨k, _, h2, _⟩
  · exact h2
  · omega
theorem gFind_some {gs : List Gl} {s : ByteArray} (h : gFind gs s ≠ 0) : ∃ p : Nat, p < gs.length ∧ gFind gs s = (p : Int) + 1 := by
  rcases gFind_of (gs := gs) s with ⟨h2, -⟩ | ⟨k, h1, h2, _⟩
  · exact absurd h2 h
  · exact ⟨k, h1, h2⟩
theorem tFind_none' {ts : List Tl} {s : ByteArray} (h : tFind ts s = -1) : ∀ j, j < ts.length → tN ts j ≠ s := by
  rcases tFind_of (ts := ts) s with ⟨-, h2⟩ | ⟨k, _, h2, _⟩
  · exact h2
  · omega
/-- The merged glues, behind k of the second set. -/
structure GIn (gs hs : List Gl) (k : Nat) : Prop where
  ok : ∀ i, i < (mG gs hs k).length → gOk (mG gs hs k) i
  of : ∀ i, i < (mG gs hs k).length → (∃ j, j < gs.length ∧ gN (mG gs hs k) i = gN gs j) ∨ ∃ j, j < k ∧ gN (mG gs hs k) i = gN hs j
  num : ∀ i, i < k + 1 → 0 ≤ iAt (mNums gs hs k) i ∧ iAt (mNums gs hs k) i ≤ ((mG gs hs k).length : Int)
theorem iAt_snoc_lt (xs : List Int) (a : Int) {i : Nat} (h : i < xs.length) : iAt (xs ++ [a]) i = iAt xs i := by
  simp [iAt, List.getElem?_append_left h]
theorem iAt_snoc_last (xs : List Int) (a : Int) : iAt (xs ++ [a]) xs.length = a := by simp [iAt]
theorem gIn {gs hs : List Gl} (hg : ∀ i, i < gs.length → gOk gs i) (hh : ∀ i, i < hs.length → gOk hs i) {k : Nat} (hk : k ≤ hs.length) : GIn gs hs k := by
  induction k with
  | zero =>
    have e : mG gs hs 0 = gs := by simp [mG, mNew]
    refine ⟨by rw [e]; exact hg, by rw [e]; exact fun i hi => .inl ⟨i, hi, rfl⟩, fun i hi => ?_⟩
    obtain rfl : i = 0 := by omega
    simp [mNums, iAt]
  | succ k ih =>
    have I := ih (by omega)
    have hl := mNums_len gs hs k
    by_cases h : gFind gs (gN hs k) = 0
    · obtain ⟨e1, e2⟩ := mG_in h
      obtain ⟨a, b, c⟩ := hh k (by omega)
      have hno : ∀ j, j < (mG gs hs k).length → gN (mG gs hs k) j ≠ gN hs k := by
        intro j hj he
        rcases I.of j hj with ⟨q, hq, e⟩ | ⟨q, hq, e⟩
        · exact gFind_zero h q hq (e.symm.trans he)
        · exact c q hq (e.symm.trans he)
      refine ⟨by rw [e1]; exact gOk_snoc I.ok a b hno, ?_, ?_⟩
      · rw [e1]
        intro i hi
        by_cases hlt : i < (mG gs hs k).length
        · rw [(gN_snoc_lt _ _ hlt).1]
          exact (I.of i hlt).imp id fun ⟨j, hj, e⟩ => ⟨j, by omega, e⟩
        · obtain rfl : i = (mG gs hs k).length := by simp at hi; omega
          exact .inr ⟨k, by omega, (gN_snoc_last _ _).1⟩
      · intro i hi
        have e4 : mNums gs hs (k + 1) = mNums gs hs k ++ [mNum gs hs k] := rfl
        rw [e4, e1, List.length_append]
        by_cases hlt : i < (mNums gs hs k).length
        · have := I.num i (by omega)
          rw [iAt_snoc_lt _ _ hlt]
          simp; omega
        · obtain rfl : i = (mNums gs hs k).length := by omega
          rw [iAt_snoc_last, e2]
          simp; omega
    · obtain ⟨p, hp, hf⟩ := gFind_some h
      obtain ⟨e1, e2⟩ := mG_out hf
      have hlen : gs.length ≤ (mG gs hs k).length := by simp [mG]
      refine ⟨by rw [e1]; exact I.ok, ?_, ?_⟩
      · rw [e1]
        exact fun i hi => (I.of i hi).imp id fun ⟨j, hj, e⟩ => ⟨j, by omega, e⟩
      · intro i hi
        have e4 : mNums gs hs (k + 1) = mNums gs hs k ++ [mNum gs hs k] := rfl
        rw [e4, e1]
        by_cases hlt : i < (mNums gs hs k).length
        · rw [iAt_snoc_lt _ _ hlt]
          exact I.num i (by omega)
        · obtain rfl : i = (mNums gs hs k).length := by omega
          rw [iAt_snoc_last, e2]
          omega

/-- The merged tiles, behind k of the second set. -/
structure TIn (ts us : List Tl) (ns : List Int) (n k : Nat) : Prop where
  ok : ∀ i, i < (mT ts us ns k).length → tOk (mT ts us ns k) n i
  of : ∀ i, i < (mT ts us ns k).length → (∃ j, j < ts.length ∧ tN (mT ts us ns k) i = tN ts j) ∨ ∃ j, j < k ∧ tN (mT ts us ns k) i = tN us j
theorem tIn {ts us : List Tl} {ns : List Int} {n : Nat} (ht : ∀ i, i < ts.length → tOk ts n i) (hu : ∀ i, i < us.length → nameB (tN us i) = true ∧ sidesOk (ren ns (tS us i)) n ∧ ∀ j, j < i → tN us j ≠ tN us i) {k : Nat} (hk : k ≤ us.length) : TIn ts us ns n k := by
  induction k with
  | zero =>
    have e : mT ts us ns 0 = ts := by simp [mT, tNew]
    exact ⟨by rw [e]; exact ht, by rw [e]; exact fun i hi => .inl ⟨i, hi, rfl⟩⟩
  | succ k ih =>
    have I := ih (by omega)
    by_cases h : tFind ts (tN us k) = -1
    · have e1 := mT_in (us := us) (ns := ns) h
      obtain ⟨a, b, c⟩ := hu k (by omega)
      have hno : ∀ j, j < (mT ts us ns k).length → tN (mT ts us ns k) j ≠ tN us k := by
        intro j hj he
        rcases I.of j hj with ⟨q, hq, e⟩ | ⟨q, hq, e⟩
        · exact tFind_none' h q hq (e.symm.trans he)
        · exact c q hq (e.symm.trans he)
      refine ⟨by rw [e1]; exact tOk_snoc I.ok a b hno, ?_⟩
      rw [e1]
      intro i hi
      by_cases hlt : i < (mT ts us ns k).length
      · rw [(tN_snoc_lt _ _ hlt).1]
        exact (I.of i hlt).imp id fun ⟨j, hj, e⟩ => ⟨j, by omega, e⟩
      · obtain rfl : i = (mT ts us ns k).length := by simp at hi; omega
        exact .inr ⟨k, by omega, (tN_snoc_last _ _).1⟩
    · have e1 := mT_out (us := us) (ns := ns) h
      exact ⟨by rw [e1]; exact I.ok, by rw [e1]; exact fun i hi => (I.of i hi).imp id fun ⟨j, hj, e⟩ => ⟨j, by omega, e⟩⟩
/-- The merged set. -/
def mS (A B : Set_) : Set_ := ⟨mG A.gs B.gs B.gs.length, mT A.ts B.ts (mNums A.gs B.gs B.gs.length) B.ts.length⟩
/-- It is valid but for its sizes. -/
theorem mS_valid {A B : Set_} (hA : Valid A) (hB : Valid B) : Valid (mS A B) ↔ ((mS A B).gs.length ≤ 200 ∧ (mS A B).ts.length ≤ 160) := by
  have G := gIn hA.g.all hB.g.all (Nat.le_refl B.gs.length)
  have hgl : A.gs.length ≤ (mS A B).gs.length := by simp [mS, mG]
  have htl : A.ts.length ≤ (mS A B).ts.length := by simp [mS, mT]
  have T : TIn A.ts B.ts (mNums A.gs B.gs B.gs.length) (mS A B).gs.length B.ts.length := by
    refine tIn (fun i hi => ?_) (fun i hi => ?_) (Nat.le_refl _)
    · obtain ⟨a, ⟨b1, b2⟩, c⟩ := hA.t.all i hi
      exact ⟨a, ⟨b1, fun k hk => by have := b2 k hk; omega⟩, c⟩
    · obtain ⟨a, ⟨b1, b2⟩, c⟩ := hB.t.all i hi
      refine ⟨a, ⟨rfl, fun k hk => ?_⟩, c⟩
      have hn : ∀ m, m < 4 → 0 ≤ iAt (mNums A.gs B.gs B.gs.length) (iAt (tS B.ts i) m).toNat ∧ iAt (mNums A.gs B.gs B.gs.length) (iAt (tS B.ts i) m).toNat ≤ ((mS A B).gs.length : Int) := by
        intro m hm
        have := b2 m hm
        exact G.num _ (by omega)
      obtain rfl | rfl | rfl | rfl : k = 0 ∨ k = 1 ∨ k = 2 ∨ k = 3 := by omega
      · exact hn 0 (by omega)
      · exact hn 1 (by omega)
      · exact hn 2 (by omega)
      · exact hn 3 (by omega)
  constructor
  · exact fun h => ⟨h.g.len, h.t.len⟩
  · intro ⟨h1, h2⟩
    exact ⟨⟨h1, G.ok⟩, ⟨by have := hA.t.one; omega, h2, T.ok⟩⟩
open Classical in
/-- What MergeSets answers. -/
noncomputable def meC (A B : Set_) : Int :=
  if ¬ (validB A = true ∧ validB B = true) then 1 else if ¬ gAgree A.gs B.gs B.gs.length then 7 else if ¬ tAgree A.ts B.ts (mNums A.gs B.gs B.gs.length) B.ts.length then 7
  else if 200 < (mS A B).gs.length ∨ 160 < (mS A B).ts.length then 4 else 0
noncomputable def meS (A B : Set_) : Set_ := if meC A B = 0 then mS A B else ⟨[], []⟩
theorem meS_no {A B : Set_} {c : Int} (h : meC A B = c) (h0 : c ≠ 0) : meS A B = ⟨[], []⟩ := by unfold meS; rw [h, if_neg h0]
theorem meS_yes {A B : Set_} (h : meC A B = 0) : meS A B = mS A B := by unfold meS; rw [if_pos h]

end Go.Proofs.Ytggpmailkkpdaaa
