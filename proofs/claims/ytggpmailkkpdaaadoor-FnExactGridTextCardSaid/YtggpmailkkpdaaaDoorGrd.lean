/-
  The grid of an assembly, as bytes; writing one byte into a builder; the word for a point. Conditions: each theorem's own.
-/
import Derived.Test.YtggpmailkkpdaaaDoorATxt
import Derived.Test.YtggpmailkkpdaaaDoorShV
import Derived.Test.YtggpmailkkpdaaaDoorBounds
import Derived.Test.YtggpmailkkpdaaaDoorTMap
namespace Go.Proofs.YtggpmailkkpdaaaDoor
open Go.RowKit

def gD (P : List Pl) : Cols := ⟨P.length, qC P⟩
theorem gShp {P : List Pl} (F : Form P) (h : P.length ≠ 0) : Shp (gD P) :=
  ⟨by show 1 ≤ P.length; omega, F.len, fun i hi => ⟨(F.all i hi).pt, (F.all i hi).lt⟩⟩
def bX0 (D : Cols) : Int := mnF (fun i => D.c i 0) (D.n - 1)
def bY0 (D : Cols) : Int := mnF (fun i => D.c i 1) (D.n - 1)
def bX1 (D : Cols) : Int := mxF (fun i => D.c i 0) (D.n - 1)
def bY1 (D : Cols) : Int := mxF (fun i => D.c i 1) (D.n - 1)
def wdQ (D : Cols) : Nat := (bX1 D - bX0 D + 1).toNat
def htQ (D : Cols) : Nat := (bY1 D - bY0 D + 1).toNat
structure BndQ (D : Cols) : Prop where
  x0 : -60 ≤ bX0 D
  y0 : -60 ≤ bY0 D
  x1 : bX1 D ≤ 60
  y1 : bY1 D ≤ 60
  wd : bX1 D = bX0 D + (wdQ D : Int) - 1
  ht : bY1 D = bY0 D + (htQ D : Int) - 1
  wp : 1 ≤ wdQ D ∧ wdQ D ≤ 121
  hp : 1 ≤ htQ D ∧ htQ D ≤ 121
theorem Shp.bnd {D : Cols} (F : Shp D) : BndQ D := by
  have hn := F.pos
  obtain ⟨i1, h1, e1⟩ := mnF_at (fun i => D.c i 0) (D.n - 1)
  obtain ⟨i2, h2, e2⟩ := mnF_at (fun i => D.c i 1) (D.n - 1)
  obtain ⟨i3, h3, e3⟩ := mxF_at (fun i => D.c i 0) (D.n - 1)
  obtain ⟨i4, h4, e4⟩ := mxF_at (fun i => D.c i 1) (D.n - 1)
  have a1 := ptB_iff.1 (F.all i1 (by omega)).pt
  have a2 := ptB_iff.1 (F.all i2 (by omega)).pt
  have a3 := ptB_iff.1 (F.all i3 (by omega)).pt
  have a4 := ptB_iff.1 (F.all i4 (by omega)).pt
  have b1 := mnF_le (fun i => D.c i 0) h3
  have b2 := mnF_le (fun i => D.c i 1) h4
  have f1 : bX0 D = D.c i1 0 := e1
  have f2 : bY0 D = D.c i2 1 := e2
  have f3 : bX1 D = D.c i3 0 := e3
  have f4 : bY1 D = D.c i4 1 := e4
  have g1 : bX0 D ≤ D.c i3 0 := b1
  have g2 : bY0 D ≤ D.c i4 1 := b2
  have hw : wdQ D = (bX1 D - bX0 D + 1).toNat := rfl
  have hh : htQ D = (bY1 D - bY0 D + 1).toNat := rfl
  exact ⟨by omega, by omega, by omega, by omega, by omega, by omega, by omega, by omega⟩
/-- The word for a point. -/
def gW (P : List Pl) (x y : Int) : ByteArray := if ixN P x y < P.length then ⟨(Lib.itoa (pT P (ixN P x y))).toArray⟩ else ⟨#[46]⟩
theorem gW_yes {P : List Pl} {x y : Int} (h : ixN P x y < P.length) : gW P x y = ⟨(Lib.itoa (pT P (ixN P x y))).toArray⟩ := if_pos h
theorem gW_no {P : List Pl} {x y : Int} (h : ¬ ixN P x y < P.length) : gW P x y = ⟨#[46]⟩ := if_neg h
theorem gT_in {P : List Pl} (F : Form P) {i : Nat} (hi : i < P.length) : 0 ≤ pT P i ∧ pT P i ≤ 159 := inB_iff.1 (F.all i hi).tl
theorem gW_size {P : List Pl} (F : Form P) (x y : Int) : (gW P x y).size ≤ 21 := by
  unfold gW
  split
  · rename_i h
    have := gT_in F h
    rw [Lib.size_eq]
    exact Lib.itoa_length_le _ (by omega) (by omega)
  · decide
/-- The first words of the row at y, a blank behind each. -/
def gP (P : List Pl) (x0 y : Int) : Nat → List UInt8
  | 0 => []
  | i + 1 => gP P x0 y i ++ (gW P (x0 + (i : Int)) y).data.toList ++ [32]
/-- .. a blank between them. -/
def gR (P : List Pl) (x0 y : Int) : Nat → List UInt8
  | 0 => []
  | i + 1 => gP P x0 y i ++ (gW P (x0 + (i : Int)) y).data.toList
theorem gR_step (P : List Pl) (x0 y : Int) (i : Nat) (h : 0 < i) : gR P x0 y (i + 1) = gR P x0 y i ++ [32] ++ (gW P (x0 + (i : Int)) y).data.toList := by
  obtain ⟨j, rfl⟩ : ∃ j, i = j + 1 := ⟨i - 1, by omega⟩
  rfl
theorem gP_len {P : List Pl} (F : Form P) (x0 y : Int) (i : Nat) : (gP P x0 y i).length ≤ i * 22 := by
  induction i with
  | zero => simp [gP]
  | succ i ih =>
    have h := gW_size F (x0 + (i : Int)) y
    rw [Lib.size_eq] at h
    simp only [gP, List.length_append, List.length_cons, List.length_nil]
    omega
theorem gR_len {P : List Pl} (F : Form P) (x0 y : Int) (i : Nat) : (gR P x0 y i).length ≤ i * 22 := by
  cases i with
  | zero => simp [gR]
  | succ i =>
    have h := gW_size F (x0 + (i : Int)) y
    have := gP_len F x0 y i
    rw [Lib.size_eq] at h
    simp only [gR, List.length_append]
    omega
/-- The first rows, from north to south. -/
def gLn (P : List Pl) (x0 y1 : Int) (W : Nat) : Nat → List UInt8
  | 0 => []
  | k + 1 => gLn P x0 y1 W k ++ gR P x0 (y1 - (k : Int)) W ++ [10]
theorem gLn_len {P : List Pl} (F : Form P) (x0 y1 : Int) {W : Nat} (hW : W ≤ 121) (k : Nat) : (gLn P x0 y1 W k).length ≤ k * 2663 := by
  induction k with
  | zero => simp [gLn]
  | succ k ih =>
    have h := gR_len F x0 (y1 - (k : Int)) W
    have h2 : W * 22 ≤ 2662 := by omega
    simp only [gLn, List.length_append, List.length_cons, List.length_nil]
    omega
theorem gLn_pos (P : List Pl) (x0 y1 : Int) (W k : Nat) (h : 1 ≤ k) : 1 ≤ (gLn P x0 y1 W k).length := by
  obtain ⟨j, rfl⟩ : ∃ j, k = j + 1 := ⟨k - 1, by omega⟩
  simp only [gLn, List.length_append, List.length_cons, List.length_nil]
  omega
open Classical in
/-- The text. -/
noncomputable def gtT (S : Set_) (P : List Pl) : ByteArray := if vaB S P = true ∧ P.length ≠ 0 then ⟨(gLn P (bX0 (gD P)) (bY1 (gD P)) (wdQ (gD P)) (htQ (gD P))).toArray⟩ else ⟨#[]⟩
theorem gtT_no {S : Set_} {P : List Pl} (h : ¬ (vaB S P = true ∧ P.length ≠ 0)) : gtT S P = ⟨#[]⟩ := by unfold gtT; rw [if_neg h]
theorem gtT_yes {S : Set_} {P : List Pl} (h : vaB S P = true) (h0 : P.length ≠ 0) : gtT S P = ⟨(gLn P (bX0 (gD P)) (bY1 (gD P)) (wdQ (gD P)) (htQ (gD P))).toArray⟩ := by unfold gtT; rw [if_pos ⟨h, h0⟩]

/-- The word, the program's. -/
theorem gridWord_any (mb : Nat) (P : List Pl) (x y : Int) (w : World) (hM : TMap w mb P P.length) (F : Form P) (hp : ptB x y = true) (hT : Tab w) :
    Calls Tryd.prog 56 #[.map (some mb), .agg #[.int .i64 x, .int .i64 y]] w fun e w' => e = .returned (.string (gW P x y)) ∧ Below w.heap.size w w' := by
  have HM := Lib.hid hM
  have HT := Lib.hid hT
  have hTl := hT.lt
  have HKEY := Lib.hid (keyOf_ptB hp)
  clear hM hT
  by_cases h : ixN P x y < P.length
  · obtain ⟨hB, hA⟩ := tMap_yes F hp h
    have HA := Lib.hid hA
    have ht := gT_in F h
    rw [gW_yes h]
    clear hA h
    go_enter Tryd.func56, Tryd.ntmps56
    go_wp2_with (first
      | (at_lookup; refine wpList_lookup_own_ok_int _ rfl _ _ 98 rfl 87 2 .i64 lawP Tryd.underlying98 Tryd.underlying2 (zeroP1 _) _ _ _ rfl (World.ownsMap.alloc HM.out _) _ _ rfl HKEY.out ?_; intro c hat hwc; obtain rfl : c = pT P (ixN P x y) := by (have := (HA.out _).symm.trans hat; simpa using this.symm))
      | (go_at_call 37; refine (implDecimal_any _ _ (HT.out.below (B := w.heap.size) (by (repeat (first | exact Below.refl _ _ | refine Below.setCell ?_ (by first | (simp; done) | (simp; omega) | omega) _ | refine belowN ?_ _ | refine Below.drew ?_ | refine Below.alloc ?_ (by first | (simp; done) | (simp; omega) | omega) _ | refine Below.trans ?_ (Below.mono (by assumption) (by first | (simp; done) | (simp; omega) | omega))))) hTl) (by omega) (by omega)).mono ?_; rintro e w2 ⟨rfl, hb2⟩))
    go_ret
    exact ⟨rfl, by (repeat (first | exact Below.refl _ _ | refine Below.setCell ?_ (by first | (simp; done) | (simp; omega) | omega) _ | refine belowN ?_ _ | refine Below.drew ?_ | refine Below.alloc ?_ (by first | (simp; done) | (simp; omega) | omega) _ | refine Below.trans ?_ (Below.mono (by assumption) (by first | (simp; done) | (simp; omega) | omega))))⟩
  · have hB := tMap_no F hp h
    rw [gW_no h]
    clear h
    go_enter Tryd.func56, Tryd.ntmps56
    go_wp2_with (at_lookup; refine wpList_lookup_own_ok_int _ rfl _ _ 98 rfl 87 2 .i64 lawP Tryd.underlying98 Tryd.underlying2 (zeroP1 _) _ _ _ rfl (World.ownsMap.alloc HM.out _) _ _ rfl HKEY.out ?_; intro c hat hwc)
    go_ret
    exact ⟨rfl, by (repeat (first | exact Below.refl _ _ | refine Below.setCell ?_ (by first | (simp; done) | (simp; omega) | omega) _ | refine belowN ?_ _ | refine Below.drew ?_ | refine Below.alloc ?_ (by first | (simp; done) | (simp; omega) | omega) _ | refine Below.trans ?_ (Below.mono (by assumption) (by first | (simp; done) | (simp; omega) | omega))))⟩

end Go.Proofs.YtggpmailkkpdaaaDoor
