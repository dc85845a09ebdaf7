/-
  Two ordered lists of placed tiles joined: what both sides build. Conditions: each theorem's own.
-/
import Derived.Test.YtaeaflbmaokieaaFirst
import Derived.Test.YtaeaflbmaokieaaIns
namespace Go.Proofs.Ytaeaflbmaokieaa
open Go.RowKit

def ltP (a b : Pl) : Prop := lessB a.x a.y b.x b.y = true
def el (P : List Pl) (i : Nat) : Pl := P.getD i default
theorem el_get {P : List Pl} {i : Nat} (h : i < P.length) : el P i = P[i] := by simp [el, h]
theorem mem_el {P : List Pl} {z : Pl} : z ∈ P ↔ ∃ j, j < P.length ∧ z = el P j := by
  constructor
  · intro h
    obtain ⟨j, hj, rfl⟩ := List.mem_iff_getElem.1 h
    exact ⟨j, hj, (el_get hj).symm⟩
  · rintro ⟨j, hj, rfl⟩
    rw [el_get hj]
    exact List.getElem_mem hj
theorem ltP_iff {a b : Pl} : ltP a b ↔ a.y < b.y ∨ (a.y = b.y ∧ a.x < b.x) := lessB_iff
theorem ltP.trans {a b c : Pl} (h1 : ltP a b) (h2 : ltP b c) : ltP a c := by rw [ltP_iff] at *; omega
theorem ltP.ne {a b : Pl} (h : ltP a b) : ¬ (a.x = b.x ∧ a.y = b.y) := by rw [ltP_iff] at h; omega
theorem Form.lt {P : List Pl} (h : Form P) {i j : Nat} (hij : i < j) (hj : j < P.length) : ltP (el P i) (el P j) := h.below hij hj
theorem srt_uniq : ∀ {A B : List Pl}, A.Pairwise ltP → B.Pairwise ltP → (∀ z, z ∈ A ↔ z ∈ B) → A = B
  | [], [], _, _, _ => rfl
  | [], b :: B, _, _, h => absurd ((h b).2 (by simp)) (by simp)
  | a :: A, [], _, _, h => absurd ((h a).1 (by simp)) (by simp)
  | a :: A, b :: B, hA, hB, h => by
    rw [List.pairwise_cons] at hA hB
    have hab : a = b := by
      have h1 := (h a).1 (by simp)
      have h2 := (h b).2 (by simp)
      rw [List.mem_cons] at h1 h2
      rcases h1 with h1 | h1
      · exact h1
      · rcases h2 with h2 | h2
        · exact h2.symm
        · have x1 := hB.1 a h1
          have x2 := hA.1 b h2
          rw [ltP_iff] at x1 x2
          omega
    subst hab
    rw [srt_uniq hA.2 hB.2 fun z => ?_]
    constructor
    · intro hz
      have := (h z).1 (List.mem_cons_of_mem _ hz)
      rw [List.mem_cons] at this
      rcases this with rfl | this
      · exact absurd (hA.1 z hz) (fun x => by rw [ltP_iff] at x; omega)
      · exact this
    · intro hz
      have := (h z).2 (List.mem_cons_of_mem _ hz)
      rw [List.mem_cons] at this
      rcases this with rfl | this
      · exact absurd (hB.1 z hz) (fun x => by rw [ltP_iff] at x; omega)
      · exact this
/-- R is the union of P and Q in order. -/
def IsJoin (P Q R : List Pl) : Prop := R.Pairwise ltP ∧ ∀ z, z ∈ R ↔ z ∈ P ∨ z ∈ Q
open Classical in
noncomputable def jnL (P Q : List Pl) : List Pl := if h : ∃ R, IsJoin P Q R then h.choose else []
theorem jnL_is {P Q R : List Pl} (h : IsJoin P Q R) : jnL P Q = R := by
  have hx : ∃ R, IsJoin P Q R := ⟨R, h⟩
  unfold jnL
  rw [dif_pos hx]
  have hc := hx.choose_spec
  exact srt_uniq hc.1 h.1 fun z => (hc.2 z).trans (h.2 z).symm
noncomputable def jnC (P Q : List Pl) : Int := if formB P = true ∧ formB Q = true then (if fdI P Q < P.length then 7 else if 500 < (jnL P Q).length then 4 else 0) else 1
noncomputable def jnR (P Q : List Pl) : List Pl := if jnC P Q = 0 then jnL P Q else []
theorem jn_p {P Q : List Pl} (h : formB P = false) : jnC P Q = 1 := by simp [jnC, h]
theorem jn_q {P Q : List Pl} (h : formB Q = false) : jnC P Q = 1 := by simp [jnC, h]
theorem jn_7 {P Q : List Pl} (h : formB P = true) (g : formB Q = true) (hf : fdI P Q < P.length) : jnC P Q = 7 := by unfold jnC; rw [if_pos ⟨h, g⟩, if_pos hf]
theorem jn_4 {P Q : List Pl} (h : formB P = true) (g : formB Q = true) (hf : ¬ fdI P Q < P.length) (hl : 500 < (jnL P Q).length) : jnC P Q = 4 := by unfold jnC; rw [if_pos ⟨h, g⟩, if_neg hf, if_pos hl]
theorem jn_0 {P Q : List Pl} (h : formB P = true) (g : formB Q = true) (hf : ¬ fdI P Q < P.length) (hl : ¬ 500 < (jnL P Q).length) : jnC P Q = 0 := by unfold jnC; rw [if_pos ⟨h, g⟩, if_neg hf, if_neg hl]
theorem jnR_no {P Q : List Pl} {c : Int} (h : jnC P Q = c) (h0 : c ≠ 0) : jnR P Q = [] := by unfold jnR; rw [if_neg (by rw [h]; exact h0)]
theorem jnR_yes {P Q : List Pl} (h : jnC P Q = 0) : jnR P Q = jnL P Q := if_pos h
theorem smallJoinAssemblies {P Q : List Pl} (_h : P.length ≤ 1048576) (_g : Q.length ≤ 1048576) : (jnR P Q).length ≤ 1048576 := by
  unfold jnR
  split
  · rename_i h
    unfold jnC at h
    split at h
    · split at h
      · cases h
      · split at h
        · cases h
        · omega
    · cases h
  · exact Nat.zero_le _

/-- What the model's merge has built when i of P and k of Q have been read. -/
structure JInv (P Q : List Pl) (i k : Nat) (O : List Pl) : Prop where
  hi : i ≤ P.length
  hk : k ≤ Q.length
  srt : O.Pairwise ltP
  mem : ∀ z, z ∈ O ↔ (∃ j, j < i ∧ z = el P j) ∨ (∃ j, j < k ∧ z = el Q j)
  bp : i < P.length → ∀ z ∈ O, ltP z (el P i)
  bq : k < Q.length → ∀ z ∈ O, ltP z (el Q k)
  nf : ∀ j, j < i → ¬ fdA P Q j
  len : O.length ≤ i + k
theorem JInv.nil (P Q : List Pl) : JInv P Q 0 0 [] := ⟨Nat.zero_le _, Nat.zero_le _, List.Pairwise.nil, by simp, by simp, by simp, fun j hj => by omega, by simp⟩
theorem srt_snoc {O : List Pl} {z : Pl} (h : O.Pairwise ltP) (hz : ∀ a ∈ O, ltP a z) : (O ++ [z]).Pairwise ltP := by
  rw [List.pairwise_append]
  refine ⟨h, by simp, fun a ha b hb => ?_⟩
  rw [List.mem_singleton] at hb
  subst hb
  exact hz a ha
theorem JInv.stepP {P Q : List Pl} {i k : Nat} {O : List Pl} (h : JInv P Q i k O) (F : Form P) (G : Form Q) (hi : i < P.length) (hlt : k < Q.length → ltP (el P i) (el Q k)) : JInv P Q (i + 1) k (O ++ [el P i]) := by
  refine ⟨hi, h.hk, srt_snoc h.srt (h.bp hi), fun z => ?_, fun h2 z hz => ?_, fun h2 z hz => ?_, fun j hj => ?_, by have := h.len; simp; omega⟩
  · rw [List.mem_append, h.mem, List.mem_singleton]
    constructor
    · rintro ((⟨j, hj, rfl⟩ | ⟨j, hj, rfl⟩) | rfl)
      · exact .inl ⟨j, by omega, rfl⟩
      · exact .inr ⟨j, hj, rfl⟩
      · exact .inl ⟨i, by omega, rfl⟩
    · rintro (⟨j, hj, rfl⟩ | ⟨j, hj, rfl⟩)
      · by_cases e : j = i
        · subst e; exact .inr rfl
        · exact .inl (.inl ⟨j, by omega, rfl⟩)
      · exact .inl (.inr ⟨j, hj, rfl⟩)
  · rw [List.mem_append, List.mem_singleton] at hz
    rcases hz with hz | rfl
    · exact (h.bp hi z hz).trans (F.lt (Nat.lt_succ_self i) h2)
    · exact F.lt (Nat.lt_succ_self i) h2
  · rw [List.mem_append, List.mem_singleton] at hz
    rcases hz with hz | rfl
    · exact h.bq h2 z hz
    · exact hlt h2
  · by_cases e : j < i
    · exact h.nf j e
    · obtain rfl : j = i := by omega
      rintro ⟨a, -⟩
      have hno : ∀ q, q < Q.length → ¬ (pX Q q = pX P j ∧ pY Q q = pY P j) := by
        intro q hq hh
        by_cases hqk : q < k
        · exact (h.bp hi (el Q q) ((h.mem _).2 (.inr ⟨q, hqk, rfl⟩))).ne hh
        · have h1 := hlt (by omega)
          by_cases e : q = k
          · subst e; exact h1.ne ⟨hh.1.symm, hh.2.symm⟩
          · exact (h1.trans (G.lt (show k < q by omega) hq)).ne ⟨hh.1.symm, hh.2.symm⟩
      unfold atI at a
      rw [ixN_none hno, if_neg (Nat.lt_irrefl _)] at a
      omega
theorem JInv.stepQ {P Q : List Pl} {i k : Nat} {O : List Pl} (h : JInv P Q i k O) (G : Form Q) (hk : k < Q.length) (hlt : i < P.length → ltP (el Q k) (el P i)) : JInv P Q i (k + 1) (O ++ [el Q k]) := by
  refine ⟨h.hi, hk, srt_snoc h.srt (h.bq hk), fun z => ?_, fun h2 z hz => ?_, fun h2 z hz => ?_, h.nf, by have := h.len; simp; omega⟩
  · rw [List.mem_append, h.mem, List.mem_singleton]
    constructor
    · rintro ((⟨j, hj, rfl⟩ | ⟨j, hj, rfl⟩) | rfl)
      · exact .inl ⟨j, hj, rfl⟩
      · exact .inr ⟨j, by omega, rfl⟩
      · exact .inr ⟨k, by omega, rfl⟩
    · rintro (⟨j, hj, rfl⟩ | ⟨j, hj, rfl⟩)
      · exact .inl (.inl ⟨j, hj, rfl⟩)
      · by_cases e : j = k
        · subst e; exact .inr rfl
        · exact .inl (.inr ⟨j, by omega, rfl⟩)
  · rw [List.mem_append, List.mem_singleton] at hz
    rcases hz with hz | rfl
    · exact h.bp h2 z hz
    · exact hlt h2
  · rw [List.mem_append, List.mem_singleton] at hz
    rcases hz with hz | rfl
    · exact (h.bq hk z hz).trans (G.lt (Nat.lt_succ_self k) h2)
    · exact G.lt (Nat.lt_succ_self k) h2
theorem JInv.both {P Q : List Pl} {i k : Nat} {O : List Pl} (h : JInv P Q i k O) (F : Form P) (G : Form Q) (hi : i < P.length) (hk : k < Q.length) (he : el P i = el Q k) : JInv P Q (i + 1) (k + 1) (O ++ [el P i]) := by
  refine ⟨hi, hk, srt_snoc h.srt (h.bp hi), fun z => ?_, fun h2 z hz => ?_, fun h2 z hz => ?_, fun j hj => ?_, by have := h.len; simp; omega⟩
  · rw [List.mem_append, h.mem, List.mem_singleton]
    constructor
    · rintro ((⟨j, hj, rfl⟩ | ⟨j, hj, rfl⟩) | rfl)
      · exact .inl ⟨j, by omega, rfl⟩
      · exact .inr ⟨j, by omega, rfl⟩
      · exact .inl ⟨i, by omega, rfl⟩
    · rintro (⟨j, hj, rfl⟩ | ⟨j, hj, rfl⟩)
      · by_cases e : j = i
        · subst e; exact .inr rfl
        · exact .inl (.inl ⟨j, by omega, rfl⟩)
      · by_cases e : j = k
        · subst e; exact .inr he.symm
        · exact .inl (.inr ⟨j, by omega, rfl⟩)
  · rw [List.mem_append, List.mem_singleton] at hz
    rcases hz with hz | rfl
    · exact (h.bp hi z hz).trans (F.lt (Nat.lt_succ_self i) h2)
    · exact F.lt (Nat.lt_succ_self i) h2
  · rw [List.mem_append, List.mem_singleton] at hz
    rcases hz with hz | rfl
    · exact (h.bq hk z hz).trans (G.lt (Nat.lt_succ_self k) h2)
    · rw [he]; exact G.lt (Nat.lt_succ_self k) h2
  · by_cases e : j < i
    · exact h.nf j e
    · obtain rfl : j = i := by omega
      rintro ⟨-, a⟩
      apply a
      have hx : pX P j = pX Q k := congrArg Pl.x he
      have hy : pY P j = pY Q k := congrArg Pl.y he
      have ht : pT P j = pT Q k := congrArg Pl.t he
      unfold atI
      rw [G.ix hk ⟨hx.symm, hy.symm⟩, if_pos hk, ht]
/-- The points are the same, the tiles are not: the first difference. -/
theorem JInv.clash {P Q : List Pl} {i k : Nat} {O : List Pl} (h : JInv P Q i k O) (G : Form Q) (hi : i < P.length) (hk : k < Q.length) (hx : pX P i = pX Q k) (hy : pY P i = pY Q k) (ht : pT P i ≠ pT Q k) : fdI P Q < P.length := by
  have ha : atI Q (pX P i) (pY P i) = pT Q k := by unfold atI; rw [G.ix hk ⟨hx.symm, hy.symm⟩, if_pos hk]
  have h0 := inB_iff.1 (G.all k hk).tl
  rw [fdI_yes hi ⟨by rw [ha]; omega, by rw [ha]; exact fun e => ht e.symm⟩ h.nf]
  exact hi
theorem JInv.done {P Q : List Pl} {O : List Pl} (h : JInv P Q P.length Q.length O) : jnL P Q = O ∧ ¬ fdI P Q < P.length := by
  refine ⟨jnL_is ⟨h.srt, fun z => ?_⟩, by rw [fdI_no h.nf]; exact Nat.lt_irrefl _⟩
  rw [h.mem, mem_el, mem_el]
theorem cRow_snoc (O : List Pl) (z : Pl) : cRow 3 (pC (O ++ [z])) (O ++ [z]).length = cRow 3 (pC O) O.length ++ [.int .i64 z.x, .int .i64 z.y, .int .i64 z.t] := by
  rw [show (O ++ [z]).length = O.length + 1 by simp, cRow]
  congr 1
  · exact cRow_congr fun i j hi _ => by simp [pC, pX, pY, pT, List.getElem?_append_left hi]
  · show [Value.int .i64 (pC (O ++ [z]) O.length 0), Value.int .i64 (pC (O ++ [z]) O.length 1), Value.int .i64 (pC (O ++ [z]) O.length 2)] = _
    simp [pC, pX, pY, pT]

/-- What the program has built when k of Q have been read. -/
structure PInv (P Q : List Pl) (k : Nat) (O : List Pl) : Prop where
  srt : O.Pairwise ltP
  mem : ∀ z, z ∈ O ↔ z ∈ P ∨ (∃ j, j < k ∧ z = el Q j)
  len : O.length ≤ P.length + k
theorem Form.srt {P : List Pl} (h : Form P) : P.Pairwise ltP := by
  rw [List.pairwise_iff_getElem]
  intro i j hi hj hij
  have := h.lt hij hj
  rwa [el_get hi, el_get hj] at this
theorem PInv.start {P : List Pl} (Q : List Pl) (F : Form P) : PInv P Q 0 P := ⟨F.srt, fun z => by simp, by simp⟩
theorem srt_below {O : List Pl} (h : O.Pairwise ltP) {i j : Nat} (hij : i < j) (hj : j < O.length) : ltP (el O i) (el O j) := by
  rw [List.pairwise_iff_getElem] at h
  rw [el_get (by omega), el_get hj]
  exact h i j (by omega) hj hij
theorem PInv.mono {P Q : List Pl} {k : Nat} {O : List Pl} (h : PInv P Q k O) (x y : Int) : Mono O x y := fun i j hij hj h1 => by
  have h2 : ltP (el O i) (el O j) := srt_below h.srt hij hj
  have h2 : lessB (pX O i) (pY O i) (pX O j) (pY O j) = true := h2
  rw [lessB_iff] at h1 h2 ⊢
  omega
theorem least {p : Nat → Prop} (n : Nat) (h : p n) : ∃ j, j ≤ n ∧ p j ∧ ∀ q, q < j → ¬ p q := by
  induction n using Nat.strongRecOn with
  | _ n ih =>
    by_cases hx : ∃ q, q < n ∧ p q
    · obtain ⟨q, hq, hp⟩ := hx
      obtain ⟨j, h1, h2, h3⟩ := ih q hq hp
      exact ⟨j, by omega, h2, h3⟩
    · exact ⟨n, Nat.le_refl _, h, fun q hq hp => hx ⟨q, hq, hp⟩⟩
theorem PInv.skip {P Q : List Pl} {k : Nat} {O : List Pl} (h : PInv P Q k O) (G : Form Q) (hk : k < Q.length) (hn : ¬ fdI P Q < P.length) (hx : ixN P (pX Q k) (pY Q k) < P.length) : PInv P Q (k + 1) O := by
  refine ⟨h.srt, fun z => ?_, by have := h.len; omega⟩
  have hQP : el Q k ∈ P := by
    obtain ⟨e1, e2⟩ := ixN_at hx
    generalize ixN P (pX Q k) (pY Q k) = i at *
    have ha : atI Q (pX P i) (pY P i) = pT Q k := by unfold atI; rw [G.ix hk ⟨e1.symm, e2.symm⟩, if_pos hk]
    have h0 := inB_iff.1 (G.all k hk).tl
    have hf : ¬ fdA P Q i := by
      intro hf
      obtain ⟨j, hj, hj1, hj2⟩ := least (p := fun j => fdA P Q j) i hf
      apply hn
      rw [fdI_yes (by omega) hj1 hj2]; omega
    have ht : pT P i = pT Q k := by
      by_cases e : pT P i = pT Q k
      · exact e
      · exact absurd ⟨by rw [ha]; omega, by rw [ha]; exact fun q => e q.symm⟩ hf
    rw [mem_el]
    refine ⟨i, hx, ?_⟩
    show Q.getD k default = P.getD i default
    have a1 : (Q.getD k default).x = (P.getD i default).x := e1.symm
    have a2 : (Q.getD k default).y = (P.getD i default).y := e2.symm
    have a3 : (Q.getD k default).t = (P.getD i default).t := ht.symm
    cases h1 : Q.getD k default
    cases h2 : P.getD i default
    rw [h1, h2] at a1 a2 a3
    simp_all
  rw [h.mem]
  constructor
  · rintro (h1 | ⟨j, hj, rfl⟩)
    · exact .inl h1
    · exact .inr ⟨j, by omega, rfl⟩
  · rintro (h1 | ⟨j, hj, rfl⟩)
    · exact .inl h1
    · by_cases e : j = k
      · subst e; exact .inl hQP
      · exact .inr ⟨j, by omega, rfl⟩
theorem PInv.ins {P Q : List Pl} {k : Nat} {O : List Pl} (h : PInv P Q k O) (G : Form Q) (hk : k < Q.length) (hx : ¬ ixN P (pX Q k) (pY Q k) < P.length) : PInv P Q (k + 1) (insP O (upN O (pX Q k) (pY Q k)) ⟨pX Q k, pY Q k, pT Q k⟩) := by
  have hle := upN_le O (pX Q k) (pY Q k)
  have hel : (⟨pX Q k, pY Q k, pT Q k⟩ : Pl) = el Q k := rfl
  rw [hel]
  have hno : ∀ z ∈ O, ¬ (z.x = pX Q k ∧ z.y = pY Q k) := by
    intro z hz hh
    rcases (h.mem z).1 hz with h1 | ⟨j, hj, rfl⟩
    · obtain ⟨i, hi, rfl⟩ := mem_el.1 h1
      apply hx
      have := ixN_le P (pX Q k) (pY Q k)
      by_cases e : ixN P (pX Q k) (pY Q k) < P.length
      · exact e
      · exact absurd hh (ixN_no (i := i) (by omega))
    · exact G.ne hj hk hh
  refine ⟨?_, fun z => ?_, by rw [insP_len hle]; have := h.len; omega⟩
  · rw [List.pairwise_iff_getElem]
    intro i j hi hj hij
    rw [insP_len hle] at hi hj
    rw [← el_get (P := insP O (upN O (pX Q k) (pY Q k)) (el Q k)) (by rw [insP_len hle]; exact hi), ← el_get (P := insP O (upN O (pX Q k) (pY Q k)) (el Q k)) (by rw [insP_len hle]; exact hj)]
    show ltP ((insP O (upN O (pX Q k) (pY Q k)) (el Q k)).getD i default) ((insP O (upN O (pX Q k) (pY Q k)) (el Q k)).getD j default)
    rw [insP_at hle, insP_at hle]
    have before : ∀ a, a < upN O (pX Q k) (pY Q k) → ltP (el O a) (el Q k) := by
      intro a ha
      have h1 : lessB (pX Q k) (pY Q k) (pX O a) (pY O a) = false := upN_no ha
      have h2 := hno (el O a) (mem_el.2 ⟨a, by omega, rfl⟩)
      rw [lessB_no] at h1
      rw [ltP_iff]
      have h3 : ¬ (pX O a = pX Q k ∧ pY O a = pY Q k) := h2
      show pY O a < pY Q k ∨ (pY O a = pY Q k ∧ pX O a < pX Q k)
      omega
    have behind : ∀ a, upN O (pX Q k) (pY Q k) ≤ a → a < O.length → ltP (el Q k) (el O a) := by
      intro a ha hal
      have h1 : lessB (pX Q k) (pY Q k) (pX O (upN O (pX Q k) (pY Q k))) (pY O (upN O (pX Q k) (pY Q k))) = true := upN_at (by omega)
      by_cases e : a = upN O (pX Q k) (pY Q k)
      · subst e; exact h1
      · exact h.mono _ _ _ _ (by omega) hal h1
    by_cases h1 : j < upN O (pX Q k) (pY Q k)
    · rw [if_pos (by omega), if_pos h1]
      exact srt_below h.srt hij (by omega)
    · by_cases h2 : j = upN O (pX Q k) (pY Q k)
      · rw [if_pos (by omega), if_neg h1, if_pos h2]
        exact before i (by omega)
      · rw [if_neg h1, if_neg h2]
        by_cases h3 : i < upN O (pX Q k) (pY Q k)
        · rw [if_pos h3]
          exact srt_below h.srt (by omega) (by omega)
        · by_cases h4 : i = upN O (pX Q k) (pY Q k)
          · rw [if_neg h3, if_pos h4]
            exact behind (j - 1) (by omega) (by omega)
          · rw [if_neg h3, if_neg h4]
            exact srt_below h.srt (by omega) (by omega)
  · unfold insP
    rw [List.mem_insertIdx hle, h.mem]
    constructor
    · rintro (rfl | h1 | ⟨j, hj, rfl⟩)
      · exact .inr ⟨k, by omega, rfl⟩
      · exact .inl h1
      · exact .inr ⟨j, by omega, rfl⟩
    · rintro (h1 | ⟨j, hj, rfl⟩)
      · exact .inr (.inl h1)
      · by_cases e : j = k
        · subst e; exact .inl rfl
        · exact .inr (.inr ⟨j, by omega, rfl⟩)
theorem PInv.done {P Q : List Pl} {O : List Pl} (h : PInv P Q Q.length O) : jnL P Q = O := by
  refine jnL_is ⟨h.srt, fun z => ?_⟩
  rw [h.mem, mem_el (P := Q)]

end Go.Proofs.Ytaeaflbmaokieaa
