/-
  A list of placed tiles without one of them; TakeTile, the model's and the program's. Conditions: each theorem's own.
-/
import Derived.Test.YtnofbeeihdgmdaaMove
import Derived.Test.YtnofbeeihdgmdaaStepA
namespace Go.Proofs.Ytnofbeeihdgmdaa
open Go.RowKit

def dropP (P : List Pl) (k : Nat) : List Pl := P.eraseIdx k
theorem dropP_len {P : List Pl} {k : Nat} (h : k < P.length) : (dropP P k).length = P.length - 1 := by simp [dropP, List.length_eraseIdx, h]
theorem dropP_lt {P : List Pl} {k i : Nat} (h : i < k) : pX (dropP P k) i = pX P i ∧ pY (dropP P k) i = pY P i ∧ pT (dropP P k) i = pT P i := by
  simp [pX, pY, pT, dropP, List.getD_eq_getElem?_getD, List.getElem?_eraseIdx, h]
theorem dropP_ge {P : List Pl} {k i : Nat} (h : k ≤ i) : pX (dropP P k) i = pX P (i + 1) ∧ pY (dropP P k) i = pY P (i + 1) ∧ pT (dropP P k) i = pT P (i + 1) := by
  simp [pX, pY, pT, dropP, List.getD_eq_getElem?_getD, List.getElem?_eraseIdx, Nat.not_lt.2 h]
theorem dropP_pC (P : List Pl) (k i j : Nat) : pC (dropP P k) i j = if i < k then pC P i j else pC P (i + 1) j := by
  by_cases h : i < k
  · obtain ⟨a, b, c⟩ := dropP_lt (P := P) h
    rw [if_pos h]; simp [pC, a, b, c]
  · obtain ⟨a, b, c⟩ := dropP_ge (P := P) (Nat.not_lt.1 h)
    rw [if_neg h]; simp [pC, a, b, c]
/-- What a call returns that makes an assembly, or an error. -/
def ArPost (W : World) (R : List Pl) (c : Int) (e : Ending) (w' : World) : Prop := ∃ v', e = .returned (.tuple #[.agg #[v'], .int .i64 c]) ∧ OwnA w' W.heap.size w'.heap.size v' R
theorem ar_nil {W w' : World} {R : List Pl} {c d : Int} (h : d = c) (h0 : R = []) : ArPost W R c (.returned (.tuple #[.agg #[.slice none 0 0], .int .i64 d])) w' := ⟨.slice none 0 0, by rw [h], .inl ⟨rfl, by rw [h0]; rfl⟩⟩
def tkC (P : List Pl) (x y : Int) : Int := if ixN P x y < P.length then 0 else 3
open Classical in
noncomputable def takC (P : List Pl) (x y : Int) : Int := if formB P = true then tkC P x y else 1
noncomputable def takR (P : List Pl) (x y : Int) : List Pl := if takC P x y = 0 then dropP P (ixN P x y) else []
theorem tak_1 {P : List Pl} {x y : Int} (h : formB P = false) : takC P x y = 1 := by simp [takC, h]
theorem tak_3 {P : List Pl} {x y : Int} (h : formB P = true) (hn : ¬ ixN P x y < P.length) : takC P x y = 3 := by unfold takC tkC; rw [if_pos h, if_neg hn]
theorem tak_0 {P : List Pl} {x y : Int} (h : formB P = true) (hn : ixN P x y < P.length) : takC P x y = 0 := by unfold takC tkC; rw [if_pos h, if_pos hn]
theorem takR_no {P : List Pl} {x y c : Int} (h : takC P x y = c) (h0 : c ≠ 0) : takR P x y = [] := by unfold takR; rw [if_neg (by rw [h]; exact h0)]
theorem smallTakeTile {P : List Pl} {x y : Int} (h : P.length ≤ 1048576) : (takR P x y).length ≤ 1048576 := by
  unfold takR
  split
  · unfold dropP
    have := List.length_eraseIdx_le P (ixN P x y)
    omega
  · exact Nat.zero_le _
/-- The cells of m elements from element s on. -/
theorem cRow_from (m : Nat) (c : Nat → Nat → Int) (s n : Nat) : cRow m c (s + n) = cRow m c s ++ cRow m (fun i j => c (s + i) j) n := by
  induction n with
  | zero => simp [cRow]
  | succ n ih => rw [show s + (n + 1) = s + n + 1 by omega, cRow, ih, cRow, List.append_assoc]; rfl
theorem dropP_row {P : List Pl} {k : Nat} (hk : k < P.length) : cRow 3 (pC (dropP P k)) (P.length - 1) = cRow 3 (pC P) k ++ cRow 3 (fun i j => pC P (k + 1 + i) j) (P.length - (k + 1)) := by
  rw [show P.length - 1 = k + (P.length - (k + 1)) by omega, cRow_from]
  congr 1
  · exact cRow_congr fun i j hi _ => by rw [dropP_pC, if_pos hi]
  · exact cRow_congr fun i j hi _ => by rw [dropP_pC, if_neg (by omega), show k + i + 1 = k + 1 + i by omega]
/-- The cells that lie from element s on. -/
theorem row_cells {w : World} {b off : Nat} {P : List Pl} (H : ∀ i, i < P.length → w.cell? ⟨b, off + i * 3, none⟩ = some (.int .i64 (pX P i)) ∧ w.cell? ⟨b, off + i * 3 + 1, none⟩ = some (.int .i64 (pY P i)) ∧ w.cell? ⟨b, off + i * 3 + 2, none⟩ = some (.int .i64 (pT P i))) {s n : Nat} (hs : s + n ≤ P.length) :
    ∀ j u, (cRow 3 (fun i j => pC P (s + i) j) n)[j]? = some u → w.cell? ((⟨b, off + s * 3, none⟩ : Addr).add j) = some u := by
  intro q u hq
  have hlt : q < n * 3 := by
    have := (List.getElem?_eq_some_iff.1 hq).1
    rwa [cRow_len] at this
  have h3 : q % 3 < 3 := Nat.mod_lt _ (by omega)
  have h := cRow_at 3 (fun i j => pC P (s + i) j) (n := n) (i := q / 3) (j := q % 3) (by omega) h3
  rw [show q / 3 * 3 + q % 3 = q by omega, hq] at h
  obtain ⟨c0, c1, c2⟩ := H (s + q / 3) (by omega)
  rw [add_none]
  obtain rfl : u = .int .i64 (pC P (s + q / 3) (q % 3)) := by simpa using h
  obtain hm | hm | hm : q % 3 = 0 ∨ q % 3 = 1 ∨ q % 3 = 2 := by omega
  · rw [hm, show off + s * 3 + q = off + (s + q / 3) * 3 by omega, c0]; rfl
  · rw [hm, show off + s * 3 + q = off + (s + q / 3) * 3 + 1 by omega, c1]; rfl
  · rw [hm, show off + s * 3 + q = off + (s + q / 3) * 3 + 2 by omega, c2]; rfl
theorem row_news {w w' : World} {b off : Nat} {P : List Pl} (H : ∀ i, i < P.length → w.cell? ⟨b, off + i * 3, none⟩ = some (.int .i64 (pX P i)) ∧ w.cell? ⟨b, off + i * 3 + 1, none⟩ = some (.int .i64 (pY P i)) ∧ w.cell? ⟨b, off + i * 3 + 2, none⟩ = some (.int .i64 (pT P i))) (hb : Below w.heap.size w w') {s n : Nat} (hs : s + n ≤ P.length) :
    ∀ j u, (cRow 3 (fun i j => pC P (s + i) j) n)[j]? = some u → w'.cell? ((⟨b, off + s * 3, none⟩ : Addr).add j) = some u := fun j u h => cell_below hb (row_cells H hs j u h)
theorem row_news0 {w w' : World} {b off : Nat} {P : List Pl} (H : ∀ i, i < P.length → w.cell? ⟨b, off + i * 3, none⟩ = some (.int .i64 (pX P i)) ∧ w.cell? ⟨b, off + i * 3 + 1, none⟩ = some (.int .i64 (pY P i)) ∧ w.cell? ⟨b, off + i * 3 + 2, none⟩ = some (.int .i64 (pT P i))) (hb : Below w.heap.size w w') {n : Nat} (hs : n ≤ P.length) :
    ∀ j u, (cRow 3 (pC P) n)[j]? = some u → w'.cell? ((⟨b, off, none⟩ : Addr).add j) = some u := by
  have h := row_news H hb (s := 0) (n := n) (by omega)
  simpa using h
theorem cRow_one (m : Nat) (c : Nat → Nat → Int) (n : Nat) : ∀ u ∈ cRow m c n, u.oneCell' = true := by
  induction n with
  | zero => intro u hu; simp [cRow] at hu
  | succ n ih =>
    intro u hu
    rw [cRow, List.mem_append] at hu
    exact hu.elim (ih u) (cCells_one m c n u)

end Go.Proofs.Ytnofbeeihdgmdaa
