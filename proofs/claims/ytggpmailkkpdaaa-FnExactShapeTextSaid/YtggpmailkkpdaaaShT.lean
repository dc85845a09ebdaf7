/-
  The text of a shape: its rows from north to south, a mark for each point. Conditions: each lemma's own.
-/
import Derived.Test.YtggpmailkkpdaaaHas
import Derived.Test.YtggpmailkkpdaaaBounds
import Derived.Lib.Join
import Derived.Lib.Strings
namespace Go.Proofs.Ytggpmailkkpdaaa
open Go.RowKit

def bX0 (D : Cols) : Int := mnF (fun i => D.c i 0) (D.n - 1)
def bY0 (D : Cols) : Int := mnF (fun i => D.c i 1) (D.n - 1)
def bX1 (D : Cols) : Int := mxF (fun i => D.c i 0) (D.n - 1)
def bY1 (D : Cols) : Int := mxF (fun i => D.c i 1) (D.n - 1)
def wdQ (D : Cols) : Nat := (bX1 D - bX0 D + 1).toNat
def htQ (D : Cols) : Nat := (bY1 D - bY0 D + 1).toNat
structure BndQ (D : Cols) : Prop where
  x0 : -60 ≤ bX0 D
  y0 : -60 ≤ bY0 D
  x1 : bX1 D ≤ 60
  y1 : bY1 D ≤ 60
  wd : bX1 D = bX0 D + (wdQ D : Int) - 1
  ht : bY1 D = bY0 D + (htQ D : Int) - 1
  wp : 1 ≤ wdQ D ∧ wdQ D ≤ 121
  hp : 1 ≤ htQ D ∧ htQ D ≤ 121
theorem Shp.bnd {D : Cols} (F : Shp D) : BndQ D := by
  have hn := F.pos
  obtain ⟨i1, h1, e1⟩ := mnF_at (fun i => D.c i 0) (D.n - 1)
  obtain ⟨i2, h2, e2⟩ := mnF_at (fun i => D.c i 1) (D.n - 1)
  obtain ⟨i3, h3, e3⟩ := mxF_at (fun i => D.c i 0) (D.n - 1)
  obtain ⟨i4, h4, e4⟩ := mxF_at (fun i => D.c i 1) (D.n - 1)
  have a1 := ptB_iff.1 (F.all i1 (by omega)).pt
  have a2 := ptB_iff.1 (F.all i2 (by omega)).pt
  have a3 := ptB_iff.1 (F.all i3 (by omega)).pt
  have a4 := ptB_iff.1 (F.all i4 (by omega)).pt
  have b1 := mnF_le (fun i => D.c i 0) h3
  have b2 := mnF_le (fun i => D.c i 1) h4
  have f1 : bX0 D = D.c i1 0 := e1
  have f2 : bY0 D = D.c i2 1 := e2
  have f3 : bX1 D = D.c i3 0 := e3
  have f4 : bY1 D = D.c i4 1 := e4
  have g1 : bX0 D ≤ D.c i3 0 := b1
  have g2 : bY0 D ≤ D.c i4 1 := b2
  have hw : wdQ D = (bX1 D - bX0 D + 1).toNat := rfl
  have hh : htQ D = (bY1 D - bY0 D + 1).toNat := rfl
  exact ⟨by omega, by omega, by omega, by omega, by omega, by omega, by omega, by omega⟩
def mkQ (D : Cols) (x y : Int) : UInt8 := if hasQ D x y = true then 35 else 46
/-- The first marks of the row at y. -/
def rowL (D : Cols) (y : Int) : Nat → List UInt8
  | 0 => []
  | i + 1 => rowL D y i ++ [mkQ D (bX0 D + (i : Int)) y]
theorem rowL_len (D : Cols) (y : Int) (i : Nat) : (rowL D y i).length = i := by
  induction i with
  | zero => rfl
  | succ i ih => simp [rowL, ih]
/-- The first rows. -/
def rwsL (D : Cols) : Nat → List (List UInt8)
  | 0 => []
  | k + 1 => rwsL D k ++ [rowL D (bY1 D - (k : Int)) (wdQ D)]
theorem rwsL_len (D : Cols) (k : Nat) : (rwsL D k).length = k := by
  induction k with
  | zero => rfl
  | succ k ih => simp [rwsL, ih]
/-- As the model lays them: a slash behind each row but the last. -/
def mrL (D : Cols) : Nat → List UInt8
  | 0 => []
  | k + 1 => mrL D k ++ rowL D (bY1 D - (k : Int)) (wdQ D) ++ (if k + 1 < htQ D then [47] else [])
theorem mrL_len (D : Cols) (hw : wdQ D ≤ 121) (k : Nat) : (mrL D k).length ≤ k * 122 := by
  induction k with
  | zero => simp [mrL]
  | succ k ih =>
    have := rowL_len D (bY1 D - (k : Int)) (wdQ D)
    simp only [mrL, List.length_append, this]
    split <;> simp <;> omega
theorem mrL_pos (D : Cols) (hw : 1 ≤ wdQ D) (k : Nat) (h : 1 ≤ k) : 1 ≤ (mrL D k).length := by
  obtain ⟨j, rfl⟩ : ∃ j, k = j + 1 := ⟨k - 1, by omega⟩
  have := rowL_len D (bY1 D - (j : Int)) (wdQ D)
  simp only [mrL, List.length_append, this]
  omega
theorem join_snoc (sep : List UInt8) (rs : List (List UInt8)) (r : List UInt8) : Lib.join (rs ++ [r]) sep = (rs.map (· ++ sep)).flatten ++ r := by
  induction rs with
  | nil => simp [Lib.join_one]
  | cons x t ih =>
    have e : Lib.joinTail sep (t ++ [r]) = sep ++ Lib.join (t ++ [r]) sep := by
      cases h : t ++ [r] with
      | nil => simp at h
      | cons y u => rw [Lib.join_cons]; simp [Lib.joinTail]
    rw [List.cons_append, Lib.join_cons, e, ih]
    simp
theorem mrL_open (D : Cols) (k : Nat) (hk : k < htQ D) : mrL D k = ((rwsL D k).map (· ++ [47])).flatten := by
  induction k with
  | zero => rfl
  | succ k ih =>
    rw [mrL, ih (by omega), if_pos hk, rwsL]
    simp
theorem mrL_join (D : Cols) (h : 1 ≤ htQ D) : mrL D (htQ D) = Lib.join (rwsL D (htQ D)) [47] := by
  obtain ⟨k, hk⟩ : ∃ k, htQ D = k + 1 := ⟨htQ D - 1, by omega⟩
  rw [hk, mrL, mrL_open D k (by omega), rwsL, join_snoc, if_neg (by omega), List.append_nil]
/-- The text. -/
noncomputable def shT (D : Cols) : ByteArray := if shB D = true then ⟨(mrL D (htQ D)).toArray⟩ else ⟨#[]⟩
theorem shT_no {D : Cols} (h : shB D = false) : shT D = ⟨#[]⟩ := by unfold shT; rw [h]; rfl
theorem shT_yes {D : Cols} (h : shB D = true) : shT D = ⟨(mrL D (htQ D)).toArray⟩ := by unfold shT; rw [if_pos h]
theorem info_u8 : (Try.prog.info? 5).map (fun i => (i.zero, i.size, i.bytes)) = some (some (.int .u8 0), 1, 1) := by kernel_rfl
def u8C (l : List UInt8) : List Value := l.map fun b => .int .u8 (b.toNat : Int)
theorem u8C_len (l : List UInt8) : (u8C l).length = l.length := by simp [u8C]
theorem u8C_snoc (l : List UInt8) (b : UInt8) : u8C (l ++ [b]) = u8C l ++ [.int .u8 (b.toNat : Int)] := by simp [u8C]
theorem u8C_one (l : List UInt8) : ∀ u ∈ u8C l, u.oneCell' = true := by
  intro u hu
  simp only [u8C, List.mem_map] at hu
  obtain ⟨b, -, rfl⟩ := hu
  rfl
/-- A row of bytes as a text. -/
theorem conv_row {w : World} {base g n cap : Nat} {l : List UInt8} (h : w.ownsRow base 5 1 (.slice (some ⟨g, 0, none⟩) n cap) n (u8C l)) (hl : l.length = n) :
    (convert 91 9 (.slice (some ⟨g, 0, none⟩) n cap)).run Try.prog w = .ok (.string ⟨l.toArray⟩) w := by
  subst hl
  refine run_convert_bytes_back _ 91 9 5 ⟨g, 0, none⟩ cap l Try.underlying91 Try.underlying5 Try.underlying9 ?_
  intro j hj
  have h1 := h.cellAt j (by omega)
  simp only [u8C, List.getElem?_map, List.getElem?_eq_getElem hj, Option.map_some] at h1
  have e : (⟨g, 0, none⟩ : Addr).add j = ⟨g, j, none⟩ := by simp [Addr.add]; omega
  rw [e]
  simpa using h1
theorem own_row8 {w : World} {base n : Nat} {v : Value} {xs : List Value} (h : w.ownsRow base 5 1 v n xs) (hn : n ≠ 0) : ∃ g cap, v = .slice (some ⟨g, 0, none⟩) n cap ∧ base ≤ g ∧ n ≤ cap ∧ cap ≤ maxLen := by
  rcases h.2 with ⟨_, h2⟩ | ⟨g, cap, cur, rfl, hb, -, hl, hm, -⟩
  · exact absurd h2 hn
  · exact ⟨g, cap, rfl, hb, hl, hm⟩

theorem At.belowB {B : Nat} {w w1 : World} {p : Nat} {x y : Value} (h : At w p x y) (hb : Below B w w1) (hp : p < B) : At w1 p x y :=
  ⟨(hb.cell (p := ⟨p, 0, none⟩) hp).trans h.c0, (hb.cell (p := ⟨p, 1, none⟩) hp).trans h.c1⟩

end Go.Proofs.Ytggpmailkkpdaaa
