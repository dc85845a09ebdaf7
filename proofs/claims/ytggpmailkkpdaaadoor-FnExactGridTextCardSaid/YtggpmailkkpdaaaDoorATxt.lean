/-
  The text of an assembly, as bytes. Conditions: each theorem's own.
-/
import Derived.Test.YtggpmailkkpdaaaDoorTxt
import Derived.Test.YtggpmailkkpdaaaDoorPtTxt
import Derived.Test.YtggpmailkkpdaaaDoorVA
import Derived.Laws.IdiomStrings
import Derived.Laws.BytesString
namespace Go.Proofs.YtggpmailkkpdaaaDoor
open Go.RowKit

def aNm (S : Set_) (P : List Pl) (i : Nat) : ByteArray := tN S.ts (pT P i).toNat
def aPt (P : List Pl) (i : Nat) : ByteArray := ptText (pX P i) (pY P i)
def aLine (S : Set_) (P : List Pl) (i : Nat) : List UInt8 := (aNm S P i).data.toList ++ [32] ++ (aPt P i).data.toList ++ [10]
def aLs (S : Set_) (P : List Pl) : Nat → List UInt8
  | 0 => []
  | k + 1 => aLs S P k ++ aLine S P k
/-- A valid assembly of a valid set. -/
structure VAs (S : Set_) (P : List Pl) : Prop where
  v : Valid S
  f : Form P
  t : ∀ i, i < P.length → 0 ≤ pT P i ∧ pT P i < S.ts.length
theorem vAs_iff {S : Set_} {P : List Pl} : vaB S P = true ↔ VAs S P := by
  unfold vaB
  rw [Bool.and_eq_true, Bool.and_eq_true, validB_iff, formB_iff, tlB_iff]
  exact ⟨fun h => ⟨h.1.1, h.1.2, h.2⟩, fun h => ⟨⟨h.v, h.f⟩, h.t⟩⟩
theorem twoNum_size {x y : Int} (hx : -60 ≤ x ∧ x ≤ 60) (hy : -60 ≤ y ∧ y ≤ 60) : (twoNum x y 44).size ≤ 43 := by
  have l1 := Lib.itoa_length_le x (by omega) (by omega)
  have l2 := Lib.itoa_length_le y (by omega) (by omega)
  have e : (twoNum x y 44).size = (Lib.itoa x).length + 1 + (Lib.itoa y).length := by
    rw [Lib.size_eq]
    simp [twoNum, ByteArray.data_append]
    omega
  omega
theorem ptText_size (x y : Int) : (ptText x y).size ≤ 43 := by
  unfold ptText
  split
  · rename_i h
    obtain ⟨h1, h2⟩ := ptB_iff.1 h
    exact twoNum_size h1 h2
  · decide
theorem aNm_size {S : Set_} {P : List Pl} (h : VAs S P) {i : Nat} (hi : i < P.length) : (aNm S P i).size ≤ 12 := by
  have := h.t i hi
  exact nm_size (h.v.t.all _ (by omega)).1
theorem aLine_len {S : Set_} {P : List Pl} (h : VAs S P) {i : Nat} (hi : i < P.length) : (aLine S P i).length ≤ 60 := by
  have h1 := aNm_size h hi
  have h2 : (aPt P i).size ≤ 43 := ptText_size _ _
  rw [Lib.size_eq] at h1 h2
  simp only [aLine, List.length_append, List.length_cons, List.length_nil]
  omega
theorem aLs_len {S : Set_} {P : List Pl} (h : VAs S P) {k : Nat} (hk : k ≤ P.length) : (aLs S P k).length ≤ k * 60 := by
  induction k with
  | zero => simp [aLs]
  | succ k ih =>
    have := aLine_len h (show k < P.length by omega)
    have := ih (by omega)
    simp only [aLs, List.length_append]
    omega
noncomputable def atT (S : Set_) (P : List Pl) : ByteArray := if vaB S P = true then ⟨(aLs S P P.length).toArray⟩ else ⟨#[]⟩
theorem atT_no {S : Set_} {P : List Pl} (h : vaB S P = false) : atT S P = ⟨#[]⟩ := by unfold atT; rw [h]; rfl
theorem atT_yes {S : Set_} {P : List Pl} (h : vaB S P = true) : atT S P = ⟨(aLs S P P.length).toArray⟩ := by unfold atT; rw [if_pos h]
theorem join2 (a b : List UInt8) : Lib.join [a, b] [32] = a ++ [32] ++ b := by simp [Lib.join, List.intercalate]
theorem line_asm (S : Set_) (P : List Pl) (i : Nat) : (lineOf [aNm S P i, aPt P i]).data.toList = aLine S P i := by
  show Lib.join [(aNm S P i).data.toList, (aPt P i).data.toList] [32] ++ [10] = _
  rw [join2]
  simp [aLine]

theorem conv_nil (w : World) : (convert 63 9 (.slice none 0 0)).run Tryd.prog w = .ok (.string ⟨#[]⟩) w := by
  rw [run_convert_bytes_string w 63 9 5 none 0 0 Tryd.underlying63 Tryd.underlying5 Tryd.underlying9]
  rfl
/-- A row of bytes, none too, as a text. -/
theorem conv_any {w : World} {base n : Nat} {v : Value} {l : List UInt8} (h : w.ownsRow base 5 1 v n (Lib.byteCells l)) (hl : l.length = n) : ∃ ao k cap, v = .slice ao k cap ∧ (convert 63 9 v).run Tryd.prog w = .ok (.string ⟨l.toArray⟩) w := by
  rcases h.2 with ⟨hv, h2⟩ | ⟨g, cap, cur, hv, -⟩
  · subst hv
    have : l = [] := List.eq_nil_of_length_eq_zero (by omega)
    subst this
    exact ⟨_, _, _, rfl, conv_nil w⟩
  · subst hv
    subst hl
    refine ⟨_, _, _, rfl, run_convert_bytes_back _ 63 9 5 ⟨g, 0, none⟩ cap l Tryd.underlying63 Tryd.underlying5 Tryd.underlying9 ?_⟩
    intro j hj
    have h1 := h.cellAt j (by omega)
    simp only [Lib.byteCells, List.getElem?_map, List.getElem?_eq_getElem hj, Option.map_some] at h1
    have e : (⟨g, 0, none⟩ : Addr).add j = ⟨g, j, none⟩ := by simp [Addr.add]; omega
    rw [e]
    simpa using h1

end Go.Proofs.YtggpmailkkpdaaaDoor
