/-
  The glue on a side of a tile, its strength and the bond of two tiles, the model's and the program's, of a valid set. Conditions: each theorem's own.
-/
import Derived.Test.YtggpmailkkpdaaaSetLaw
import Derived.Test.YtggpmailkkpdaaaDir
namespace Go.Proofs.Ytggpmailkkpdaaa
open Go.RowKit

/-- The number of the glue on a side. -/
def sideZ (S : Set_) (k m : Nat) : Int := iAt (tS S.ts k) m
/-- The strength of a glue by its number. -/
def strZ (gs : List Gl) (g : Int) : Int := if g = 0 then 0 else gS gs (g - 1).toNat
theorem strZ_zero (gs : List Gl) : strZ gs 0 = 0 := rfl
theorem strZ_succ (gs : List Gl) (k : Nat) : strZ gs ((k : Int) + 1) = gS gs k := by
  unfold strZ
  rw [if_neg (by omega), show ((k : Int) + 1 - 1).toNat = k by omega]
/-- The bond of tile a with tile b, which lies in direction m, the other side being o. -/
def bondZ (S : Set_) (a m b o : Nat) : Int := if sideZ S a m = sideZ S b o then strZ S.gs (sideZ S a m) else 0

theorem Valid.sides {S : Set_} (h : Valid S) {k : Nat} (hk : k < S.ts.length) : (tS S.ts k).length = 4 := (h.t.all k hk).2.1.1
theorem Valid.side {S : Set_} (h : Valid S) {k m : Nat} (hk : k < S.ts.length) (hm : m < 4) : 0 ≤ sideZ S k m ∧ sideZ S k m ≤ S.gs.length := (h.t.all k hk).2.1.2 m hm

theorem tiles_open {w : World} {vt : Value} {ts : List Tl} (h : Tiles w vt ts) (h0 : 0 < ts.length) : ∃ b off cap, vt = .slice (some ⟨b, off, none⟩) ts.length cap ∧ ts.length ≤ cap ∧ cap ≤ maxLen ∧
    ∀ k, k < ts.length → (tS ts k).length = 4 → ∃ b2 o2 c, w.cell? ⟨b, off + k * 2, none⟩ = some (.string (tN ts k)) ∧ w.cell? ⟨b, off + k * 2 + 1, none⟩ = some (.slice (some ⟨b2, o2, none⟩) 4 c) ∧ 4 ≤ c ∧ c ≤ maxLen ∧
      ∀ m, m < 4 → w.cell? ⟨b2, o2 + m, none⟩ = some (.int .i64 (iAt (tS ts k) m)) := by
  obtain ⟨sv, ⟨ao, cap, rfl, hl, hm, hc⟩, hsv⟩ := h
  obtain ⟨b, off, rfl, H1⟩ := hc h0
  refine ⟨b, off, cap, rfl, hl, hm, fun k hk h4 => ?_⟩
  obtain ⟨so, c, hs, hs1, hs2, hs3⟩ := hsv k hk
  rw [h4] at hs hs1 hs3
  obtain ⟨b2, o2, rfl, hs4⟩ := hs3 (by omega)
  have c0 := H1 k 0 hk (by omega)
  have c1 := H1 k 1 hk (by omega)
  simp at c0 c1
  rw [hs] at c1
  refine ⟨b2, o2, c, c0, c1, hs1, hs2, fun m hm4 => ?_⟩
  have := hs4 m 0 hm4 (by omega)
  simpa using this

theorem glues_open {w : World} {vg : Value} {gs : List Gl} (h : Glues w vg gs) (h0 : 0 < gs.length) : ∃ b off cap, vg = .slice (some ⟨b, off, none⟩) gs.length cap ∧ gs.length ≤ cap ∧ cap ≤ maxLen ∧
    ∀ k, k < gs.length → w.cell? ⟨b, off + k * 2, none⟩ = some (.string (gN gs k)) ∧ w.cell? ⟨b, off + k * 2 + 1, none⟩ = some (.int .i64 (gS gs k)) := by
  obtain ⟨ao, cap, rfl, hl, hm, hc⟩ := h
  obtain ⟨b, off, rfl, H1⟩ := hc h0
  refine ⟨b, off, cap, rfl, hl, hm, fun k hk => ?_⟩
  have c0 := H1 k 0 hk (by omega)
  have c1 := H1 k 1 hk (by omega)
  simp at c0 c1
  exact ⟨c0, c1⟩

/-- StrengthOf: the strength and the code. -/
noncomputable def so1 (S : Set_) (t d : Int) : Int := if validB S = true ∧ inB t 0 ((S.ts.length : Int) - 1) = true ∧ inB d 0 3 = true then strZ S.gs (sideZ S t.toNat d.toNat) else 0
noncomputable def so2 (S : Set_) (t d : Int) : Int := if validB S = true then (if inB t 0 ((S.ts.length : Int) - 1) = true ∧ inB d 0 3 = true then 0 else 2) else 1
theorem so_no {S : Set_} (h : validB S = false) (t d : Int) : so1 S t d = 0 ∧ so2 S t d = 1 := by simp [so1, so2, h]
theorem so_out {S : Set_} (h : validB S = true) {t d : Int} (h2 : ¬ (inB t 0 ((S.ts.length : Int) - 1) = true ∧ inB d 0 3 = true)) : so1 S t d = 0 ∧ so2 S t d = 2 :=
  ⟨by unfold so1; rw [if_neg (fun x => h2 x.2)], by unfold so2; rw [if_pos h, if_neg h2]⟩
theorem so_yes {S : Set_} (h : validB S = true) {t d : Int} (h2 : inB t 0 ((S.ts.length : Int) - 1) = true) (h3 : inB d 0 3 = true) : so1 S t d = strZ S.gs (sideZ S t.toNat d.toNat) ∧ so2 S t d = 0 :=
  ⟨by unfold so1; rw [if_pos ⟨h, h2, h3⟩], by unfold so2; rw [if_pos h, if_pos ⟨h2, h3⟩]⟩
theorem ret_ii {a b x y : Int} (h : a = x) (k : b = y) : Ending.returned (.tuple #[.int .i64 a, .int .i64 b]) = .returned (.tuple #[.int .i64 x, .int .i64 y]) := by rw [h, k]

end Go.Proofs.Ytggpmailkkpdaaa
