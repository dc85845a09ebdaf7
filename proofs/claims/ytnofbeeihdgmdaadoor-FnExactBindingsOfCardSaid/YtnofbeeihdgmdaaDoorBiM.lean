/-
  With what strength each tile of an assembly is bound: the sum over the bonds is the sum over the four sides. Conditions: each theorem's own.
-/
import Derived.Test.YtnofbeeihdgmdaaDoorTot
import Derived.Test.YtnofbeeihdgmdaaDoorZs
namespace Go.Proofs.YtnofbeeihdgmdaaDoor
open Go.RowKit

/-- What tile j gets of a bond. -/
def bX (j : Nat) (x : Bd) : Int := (if x.a = j then x.s else 0) + (if x.b = j then x.s else 0)
def bsum (L : List Bd) (j : Nat) : Int := (L.map (bX j)).sum
theorem bsum_snoc (L : List Bd) (x : Bd) (j : Nat) : bsum (L ++ [x]) j = bsum L j + bX j x := by simp [bsum]
theorem bsum_append (L M : List Bd) (j : Nat) : bsum (L ++ M) j = bsum L j + bsum M j := by simp [bsum]
theorem bsum_in {L : List Bd} (h : ∀ x ∈ L, 0 ≤ x.s ∧ x.s ≤ 4) (j : Nat) : 0 ≤ bsum L j ∧ bsum L j ≤ 8 * L.length := by
  induction L with
  | nil => simp [bsum]
  | cons x L ih =>
    have a := ih fun y hy => h y (List.mem_cons_of_mem _ hy)
    have b := h x (List.mem_cons_self ..)
    have c : 0 ≤ bX j x ∧ bX j x ≤ 8 := by unfold bX; split <;> split <;> omega
    simp only [bsum, List.map_cons, List.sum_cons, List.length_cons] at a ⊢
    omega
theorem bsum_pre {S : Set_} {ps : List Pl} (h : Va S ps) {L : List Bd} (hL : L <+: bdsT S ps (tcs ps ps.length)) (j : Nat) : 0 ≤ bsum L j ∧ bsum L j ≤ 8000 := by
  have a := bsum_in (L := L) (fun x hx => (bdsT_mem h (hL.subset hx)).2.2) j
  have b := hL.length_le
  have c := bdsT_small (S := S) (List.prefix_refl (tcs ps ps.length)) h.F.len
  omega
theorem bdsT_append (S : Set_) (ps : List Pl) (a b : List Tc) : bdsT S ps (a ++ b) = bdsT S ps a ++ bdsT S ps b := by simp [bdsT]
theorem bdOf_sum {S : Set_} {ps : List Pl} {t : Tc} (h : 0 ≤ bdZ S ps t) (j : Nat) : bsum (bdOf S ps t) j = (if t.a = j then bdZ S ps t else 0) + (if t.b = j then bdZ S ps t else 0) := by
  by_cases h0 : 0 < bdZ S ps t
  · rw [bdOf_yes h0]; simp [bsum, bX]
  · have h1 : bdZ S ps t = 0 := by omega
    rw [bdOf_no h0, h1]; simp [bsum]
theorem bondZ_symm (S : Set_) (a m b o : Nat) : bondZ S a m b o = bondZ S b o a m := by
  unfold bondZ
  by_cases h : sideZ S a m = sideZ S b o
  · rw [if_pos h, if_pos h.symm, h]
  · rw [if_neg h, if_neg (Ne.symm h)]
/-- The bond of tile j in direction d, and the place of what lies there. -/
def bJ (S : Set_) (ps : List Pl) (j d : Nat) : Int := bnd1 S ps (pX ps j) (pY ps j) (tlN ps j) d
def nJ (ps : List Pl) (j d : Nat) : Nat := ixN ps (stepX (pX ps j) (d : Int)) (stepY (pY ps j) (d : Int))
theorem nJ_turn {S : Set_} {ps : List Pl} (h : Va S ps) {i j d e : Nat} (hi : i < ps.length) (hj : j < ps.length) (hd : (d = 1 ∧ e = 3) ∨ (d = 0 ∧ e = 2)) : nJ ps i d = j ↔ nJ ps j e = i := by
  unfold nJ
  constructor
  · intro hk
    have ha := ixN_at (x := stepX (pX ps i) (d : Int)) (y := stepY (pY ps i) (d : Int)) (by rw [hk]; exact hj)
    rw [hk] at ha
    refine h.F.ix hi ?_
    rcases hd with ⟨rfl, rfl⟩ | ⟨rfl, rfl⟩ <;> simp [stepX, stepY] at ha ⊢ <;> omega
  · intro hk
    have ha := ixN_at (x := stepX (pX ps j) (e : Int)) (y := stepY (pY ps j) (e : Int)) (by rw [hk]; exact hi)
    rw [hk] at ha
    refine h.F.ix hj ?_
    rcases hd with ⟨rfl, rfl⟩ | ⟨rfl, rfl⟩ <;> simp [stepX, stepY] at ha ⊢ <;> omega
theorem tcOf_sum {S : Set_} {ps : List Pl} (h : Va S ps) {i j d e : Nat} (hi : i < ps.length) (hj : j < ps.length) (hd : (d = 1 ∧ e = 3) ∨ (d = 0 ∧ e = 2)) :
    bsum (bdsT S ps (tcOf ps i (d : Int))) j = (if j = i then bJ S ps j d else 0) + (if nJ ps j e = i then bJ S ps j e else 0) := by
  have key := nJ_turn h hi hj hd
  by_cases hk : nJ ps i d < ps.length
  · obtain ⟨k, hke⟩ : ∃ k, nJ ps i d = k := ⟨_, rfl⟩
    rw [hke] at hk key
    have hz : bdZ S ps ⟨i, d, k⟩ = bondZ S (tlN ps i) d (tlN ps k) ((d + 2) % 4) := by unfold bdZ; simp
    have h0 := (bondZ_in h.V (a := tlN ps i) (m := d) (b := tlN ps k) (o := (d + 2) % 4) (h.tl hi).2 (by omega)).1
    rw [← hz] at h0
    have e1 : bdsT S ps (tcOf ps i (d : Int)) = bdOf S ps ⟨i, d, k⟩ := by rw [tcOf_yes hk hke]; simp [bdsT]
    rw [e1, bdOf_sum h0, hz]
    congr 1
    · by_cases hij : i = j
      · subst hij
        rw [if_pos rfl, if_pos rfl]
        exact (bnd1_yes hk hke).symm
      · rw [if_neg hij, if_neg (Ne.symm hij)]
    · by_cases hkj : k = j
      · subst hkj
        have hq := key.1 rfl
        rw [if_pos rfl, if_pos hq]
        refine Eq.trans ?_ (bnd1_yes (S := S) (t := tlN ps k) hi hq).symm
        rw [bondZ_symm]
        rcases hd with ⟨rfl, rfl⟩ | ⟨rfl, rfl⟩ <;> rfl
      · rw [if_neg hkj, if_neg (fun hq => hkj (key.2 hq))]
  · have e1 : bdsT S ps (tcOf ps i (d : Int)) = [] := by rw [tcOf_no hk]; rfl
    have e2 : (if j = i then bJ S ps j d else 0) = 0 := by
      by_cases hij : j = i
      · subst hij; rw [if_pos rfl]; exact bnd1_no hk
      · rw [if_neg hij]
    have e3 : (if nJ ps j e = i then bJ S ps j e else 0) = 0 := by
      rw [if_neg]
      intro hq
      have := key.2 hq
      omega
    rw [e1, e2, e3]
    rfl
theorem ite_succ (a m : Nat) (z : Int) : (if a < m + 1 then z else 0) = (if a < m then z else 0) + (if a = m then z else 0) := by
  by_cases h : a < m
  · rw [if_pos h, if_pos (by omega), if_neg (by omega)]; omega
  · by_cases h2 : a = m
    · rw [if_neg h, if_pos (by omega), if_pos h2]; omega
    · rw [if_neg h, if_neg (by omega), if_neg h2]; omega
theorem tcs_sum {S : Set_} {ps : List Pl} (h : Va S ps) {j : Nat} (hj : j < ps.length) (m : Nat) (hm : m ≤ ps.length) :
    bsum (bdsT S ps (tcs ps m)) j = (if j < m then bJ S ps j 1 else 0) + (if j < m then bJ S ps j 0 else 0) + (if nJ ps j 3 < m then bJ S ps j 3 else 0) + (if nJ ps j 2 < m then bJ S ps j 2 else 0) := by
  induction m with
  | zero => simp [tcs, bdsT, bsum]
  | succ m ih =>
    have a := ih (by omega)
    have b : bsum (bdsT S ps (tcOf ps m 1)) j = _ := tcOf_sum h (i := m) (j := j) (d := 1) (e := 3) (by omega) hj (.inl ⟨rfl, rfl⟩)
    have c : bsum (bdsT S ps (tcOf ps m 0)) j = _ := tcOf_sum h (i := m) (j := j) (d := 0) (e := 2) (by omega) hj (.inr ⟨rfl, rfl⟩)
    rw [tcs, bdsT_append, bdsT_append, bsum_append, bsum_append, a, b, c, ite_succ, ite_succ, ite_succ, ite_succ]
    omega
theorem bsum_all {S : Set_} {ps : List Pl} (h : Va S ps) {j : Nat} (hj : j < ps.length) : bsum (bdsT S ps (tcs ps ps.length)) j = bndZ S ps (pX ps j) (pY ps j) (tlN ps j) 4 := by
  have e3 : (if nJ ps j 3 < ps.length then bJ S ps j 3 else 0) = bJ S ps j 3 := by
    by_cases hk : nJ ps j 3 < ps.length
    · rw [if_pos hk]
    · rw [if_neg hk]; exact (bnd1_no hk).symm
  have e2 : (if nJ ps j 2 < ps.length then bJ S ps j 2 else 0) = bJ S ps j 2 := by
    by_cases hk : nJ ps j 2 < ps.length
    · rw [if_pos hk]
    · rw [if_neg hk]; exact (bnd1_no hk).symm
  rw [tcs_sum h hj _ (Nat.le_refl _), if_pos hj, if_pos hj, e3, e2]
  simp only [bndZ, bJ]
  omega

/-- The strengths of the first k tiles. -/
def biL (S : Set_) (ps : List Pl) (k : Nat) : List Int := (List.range k).map fun j => bndZ S ps (pX ps j) (pY ps j) (tlN ps j) 4
theorem biL_len (S : Set_) (ps : List Pl) (k : Nat) : (biL S ps k).length = k := by simp [biL]
theorem biL_at (S : Set_) (ps : List Pl) {k j : Nat} (h : j < k) : iAt (biL S ps k) j = bndZ S ps (pX ps j) (pY ps j) (tlN ps j) 4 := by simp [iAt, biL, h]
theorem biL_snoc (S : Set_) (ps : List Pl) (k : Nat) : biL S ps (k + 1) = biL S ps k ++ [bndZ S ps (pX ps k) (pY ps k) (tlN ps k) 4] := by simp [biL, List.range_succ]
open Classical in
/-- BindingsOf: the strengths. -/
noncomputable def biZ (S : Set_) (ps : List Pl) : List Int := if vaB S ps = true then biL S ps ps.length else []
theorem biZ_yes {S : Set_} {ps : List Pl} (h : vaB S ps = true) : biZ S ps = biL S ps ps.length := by unfold biZ; rw [if_pos h]
theorem biZ_no {S : Set_} {ps : List Pl} (h : vaB S ps = false) : biZ S ps = [] := by unfold biZ; rw [if_neg (by rw [h]; simp)]
theorem smallBindingsOf {S : Set_} {ps : List Pl} (_h : S.small) (h2 : ps.length ≤ 1048576) : (biZ S ps).length ≤ 1048576 := by
  unfold biZ; split
  · rw [biL_len]; exact h2
  · simp
/-- A call that returns a list of numbers in new memory, and a code. -/
def ZPost (W : World) (zs : List Int) (c : Int) (e : Ending) (w' : World) : Prop := ∃ v, e = .returned (.tuple #[v, .int .i64 c]) ∧ OwnZ w' W.heap.size w'.heap.size v zs
theorem ZPost.nil {W w' : World} {zs : List Int} {c x : Int} (hz : zs = []) (hc : x = c) : ZPost W zs c (.returned (.tuple #[.slice none 0 0, .int .i64 x])) w' := ⟨_, by rw [hc], .inl ⟨rfl, by rw [hz]; rfl⟩⟩
theorem ZPost.mk {W w' : World} {zs : List Int} {c x : Int} {v : Value} (hc : x = c) (h : OwnZ w' W.heap.size w'.heap.size v zs) : ZPost W zs c (.returned (.tuple #[v, .int .i64 x])) w' := ⟨_, by rw [hc], h⟩
theorem OwnZ.of_row {w : World} {base : Nat} {v : Value} {zs : List Int} (h : w.ownsRow base 2 1 v zs.length (zs.map (Value.int .i64))) : OwnZ w base w.heap.size v zs := by
  obtain ⟨-, ⟨rfl, h0⟩ | ⟨g, cap, cur, rfl, hg, hh, hl, hm, hs, ht⟩⟩ := h
  · exact .inl ⟨rfl, h0⟩
  · have hr : w.rowIs g 2 cap (fun j => cur.getD j undef) := ⟨cur, hh, by omega, fun i hi => by show cur[i]? = some (cur.getD i undef); rw [Array.getD_eq_getD_getElem?, Array.getElem?_eq_getElem (show i < cur.size by omega)]; rfl⟩
    refine .inr ⟨g, hg, hr.lt, .inr ⟨cap, _, rfl, hl, hm, hr, fun i hi => ?_⟩⟩
    have h1 : (cur.toList.take (zs.length * 1))[i]? = (zs.map (Value.int .i64))[i]? := by rw [ht]
    rw [List.getElem?_take, if_pos (by omega)] at h1
    have h2 : cur[i]? = some (.int .i64 (iAt zs i)) := by
      rw [← Array.getElem?_toList, h1]
      simp [iAt, hi]
    show cur.getD i undef = _
    rw [Array.getD_eq_getD_getElem?, h2]
    rfl
end Go.Proofs.YtnofbeeihdgmdaaDoor
