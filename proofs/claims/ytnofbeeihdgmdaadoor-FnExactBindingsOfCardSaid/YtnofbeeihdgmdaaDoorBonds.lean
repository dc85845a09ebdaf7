/-
  The glue on a side of a tile, its strength and the bond of two tiles, the model's and the program's, of a valid set. Conditions: each theorem's own.
-/
import Derived.Test.YtnofbeeihdgmdaaDoorSetLaw
import Derived.Test.YtnofbeeihdgmdaaDoorDir
namespace Go.Proofs.YtnofbeeihdgmdaaDoor
open Go.RowKit

/-- The number of the glue on a side. -/
def sideZ (S : Set_) (k m : Nat) : Int := iAt (tS S.ts k) m
/-- The strength of a glue by its number. -/
def strZ (gs : List Gl) (g : Int) : Int := if g = 0 then 0 else gS gs (g - 1).toNat
theorem strZ_zero (gs : List Gl) : strZ gs 0 = 0 := rfl
theorem strZ_succ (gs : List Gl) (k : Nat) : strZ gs ((k : Int) + 1) = gS gs k := by
  unfold strZ
  rw [if_neg (by omega), show ((k : Int) + 1 - 1).toNat = k by omega]
/-- The bond of tile a with tile b, which lies in direction m, the other side being o. -/
def bondZ (S : Set_) (a m b o : Nat) : Int := if sideZ S a m = sideZ S b o then strZ S.gs (sideZ S a m) else 0

theorem Valid.sides {S : Set_} (h : Valid S) {k : Nat} (hk : k < S.ts.length) : (tS S.ts k).length = 4 := (h.t.all k hk).2.1.1
theorem Valid.side {S : Set_} (h : Valid S) {k m : Nat} (hk : k < S.ts.length) (hm : m < 4) : 0 ≤ sideZ S k m ∧ sideZ S k m ≤ S.gs.length := (h.t.all k hk).2.1.2 m hm

theorem tiles_open {w : World} {vt : Value} {ts : List Tl} (h : Tiles w vt ts) (h0 : 0 < ts.length) : ∃ b off cap, vt = .slice (some ⟨b, off, none⟩) ts.length cap ∧ ts.length ≤ cap ∧ cap ≤ maxLen ∧
    ∀ k, k < ts.length → (tS ts k).length = 4 → ∃ b2 o2 c, w.cell? ⟨b, off + k * 2, none⟩ = some (.string (tN ts k)) ∧ w.cell? ⟨b, off + k * 2 + 1, none⟩ = some (.slice (some ⟨b2, o2, none⟩) 4 c) ∧ 4 ≤ c ∧ c ≤ maxLen ∧
      ∀ m, m < 4 → w.cell? ⟨b2, o2 + m, none⟩ = some (.int .i64 (iAt (tS ts k) m)) := by
  obtain ⟨sv, ⟨ao, cap, rfl, hl, hm, hc⟩, hsv⟩ := h
  obtain ⟨b, off, rfl, H1⟩ := hc h0
  refine ⟨b, off, cap, rfl, hl, hm, fun k hk h4 => ?_⟩
  obtain ⟨so, c, hs, hs1, hs2, hs3⟩ := hsv k hk
  rw [h4] at hs hs1 hs3
  obtain ⟨b2, o2, rfl, hs4⟩ := hs3 (by omega)
  have c0 := H1 k 0 hk (by omega)
  have c1 := H1 k 1 hk (by omega)
  simp at c0 c1
  rw [hs] at c1
  refine ⟨b2, o2, c, c0, c1, hs1, hs2, fun m hm4 => ?_⟩
  have := hs4 m 0 hm4 (by omega)
  simpa using this

theorem glues_open {w : World} {vg : Value} {gs : List Gl} (h : Glues w vg gs) (h0 : 0 < gs.length) : ∃ b off cap, vg = .slice (some ⟨b, off, none⟩) gs.length cap ∧ gs.length ≤ cap ∧ cap ≤ maxLen ∧
    ∀ k, k < gs.length → w.cell? ⟨b, off + k * 2, none⟩ = some (.string (gN gs k)) ∧ w.cell? ⟨b, off + k * 2 + 1, none⟩ = some (.int .i64 (gS gs k)) := by
  obtain ⟨ao, cap, rfl, hl, hm, hc⟩ := h
  obtain ⟨b, off, rfl, H1⟩ := hc h0
  refine ⟨b, off, cap, rfl, hl, hm, fun k hk => ?_⟩
  have c0 := H1 k 0 hk (by omega)
  have c1 := H1 k 1 hk (by omega)
  simp at c0 c1
  exact ⟨c0, c1⟩

theorem l02Index_any (p : Nat) (vg vt : Value) (ts : List Tl) (t : Int) (w : World) (hp : At w p vg vt) (ht : Tiles w vt ts) (hn : ts.length ≤ 1048576) :
    Calls Tryd.prog 42 #[.pointer (some ⟨p, 0, none⟩), .int .i64 t] w fun e w' => e = .returned (.bool (inB t 0 ((ts.length : Int) - 1))) ∧ w = w' := by
  obtain ⟨sv, ⟨ao, cap, rfl, hl, hm, hc⟩, -⟩ := ht
  have q0 := hp.c1
  clear hc hp
  go_enter Tryd.func42, Tryd.ntmps42
  go_wp2_with (go_at_call 70; refine (l00In_any _ _ _ _).mono ?_; rintro e w' ⟨rfl, rfl⟩)
  go_ret
  exact ⟨rfl, rfl⟩

theorem hasTile_any (vg vt : Value) (ts : List Tl) (t : Int) (w : World) (ht : Tiles w vt ts) (_hn : ts.length ≤ 1048576) :
    Calls Tryd.prog 49 #[.agg #[vg, vt], .int .i64 t] w fun e w' => e = .returned (.bool (inB t 0 ((ts.length : Int) - 1))) ∧ Below w.heap.size w w' := by
  obtain ⟨sv, ⟨ao, cap, rfl, hl, hm, hc⟩, -⟩ := ht
  clear hc
  by_cases h0 : 0 ≤ t
  · by_cases h1 : t < ts.length
    · have K : Hid (inB t 0 ((ts.length : Int) - 1) = true) := inB_yes h0 (by omega)
      go_enter Tryd.func49, Tryd.ntmps49
      go_wp2
      go_ret
      exact ⟨ret_bool (by rw [K.out]), by (repeat (first | exact Below.refl _ _ | refine Below.setCell ?_ (by first | (simp; done) | (simp; omega) | omega) _ | refine belowN ?_ _ | refine Below.drew ?_ | refine Below.alloc ?_ (by first | (simp; done) | (simp; omega) | omega) _ | refine Below.trans ?_ (Below.mono (by assumption) (by first | (simp; done) | (simp; omega) | omega))))⟩
    · have K : Hid (inB t 0 ((ts.length : Int) - 1) = false) := inB_no (by omega)
      go_enter Tryd.func49, Tryd.ntmps49
      go_wp2
      go_ret
      exact ⟨ret_bool (by rw [K.out]), by (repeat (first | exact Below.refl _ _ | refine Below.setCell ?_ (by first | (simp; done) | (simp; omega) | omega) _ | refine belowN ?_ _ | refine Below.drew ?_ | refine Below.alloc ?_ (by first | (simp; done) | (simp; omega) | omega) _ | refine Below.trans ?_ (Below.mono (by assumption) (by first | (simp; done) | (simp; omega) | omega))))⟩
  · have K : Hid (inB t 0 ((ts.length : Int) - 1) = false) := inB_no (by omega)
    go_enter Tryd.func49, Tryd.ntmps49
    go_wp2
    go_ret
    exact ⟨ret_bool (by rw [K.out]), by (repeat (first | exact Below.refl _ _ | refine Below.setCell ?_ (by first | (simp; done) | (simp; omega) | omega) _ | refine belowN ?_ _ | refine Below.drew ?_ | refine Below.alloc ?_ (by first | (simp; done) | (simp; omega) | omega) _ | refine Below.trans ?_ (Below.mono (by assumption) (by first | (simp; done) | (simp; omega) | omega))))⟩

theorem l02Strength_any (p : Nat) (vg vt : Value) (gs : List Gl) (g : Int) (w : World) (hp : At w p vg vt) (hg : Glues w vg gs) (_hn : gs.length ≤ 1048576) (h0 : 0 ≤ g) (h1 : g ≤ gs.length) :
    Calls Tryd.prog 104 #[.pointer (some ⟨p, 0, none⟩), .int .i64 g] w fun e w' => e = .returned (.int .i64 (strZ gs g)) ∧ w = w' := by
  by_cases hz : g = 0
  · subst hz
    go_enter Tryd.func104, Tryd.ntmps104
    go_wp2
    go_ret
    exact ⟨rfl, rfl⟩
  · obtain ⟨k, rfl⟩ : ∃ k : Nat, g = (k : Int) + 1 := ⟨(g - 1).toNat, by omega⟩
    obtain ⟨b, off, cap, rfl, hl, hm, hc⟩ := glues_open hg (by omega)
    have q0 := hp.c0
    have c1 := (hc k (by omega)).2
    have hk : k < gs.length := by omega
    have K := Lib.hid (strZ_succ gs k)
    have b0 : ((k : Int) + 1 == 0) = false := by simp; omega
    unfold maxLen at hm
    clear hc hg hp hz
    go_enter Tryd.func104, Tryd.ntmps104
    go_wp2
    go_ret
    exact ⟨ret_i64 (by rw [K.out]), rfl⟩

theorem strength_any (vg vt : Value) (gs : List Gl) (g : Int) (w : World) (hg : Glues w vg gs) (_hn : gs.length ≤ 1048576) (h0 : 0 ≤ g) (h1 : g ≤ gs.length) :
    Calls Tryd.prog 111 #[.agg #[vg, vt], .int .i64 g] w fun e w' => e = .returned (.int .i64 (strZ gs g)) ∧ Below w.heap.size w w' := by
  by_cases hz : g = 0
  · subst hz
    go_enter Tryd.func111, Tryd.ntmps111
    go_wp2
    go_ret
    exact ⟨rfl, by (repeat (first | exact Below.refl _ _ | refine Below.setCell ?_ (by first | (simp; done) | (simp; omega) | omega) _ | refine belowN ?_ _ | refine Below.drew ?_ | refine Below.alloc ?_ (by first | (simp; done) | (simp; omega) | omega) _ | refine Below.trans ?_ (Below.mono (by assumption) (by first | (simp; done) | (simp; omega) | omega))))⟩
  · obtain ⟨k, rfl⟩ : ∃ k : Nat, g = (k : Int) + 1 := ⟨(g - 1).toNat, by omega⟩
    obtain ⟨b, off, cap, rfl, hl, hm, hc⟩ := glues_open hg (by omega)
    have c1 := akeep (o := .cells #[.slice (some ⟨b, off, none⟩) gs.length cap, vt] 38) (hc k (by omega)).2
    have hk : k < gs.length := by omega
    have K := Lib.hid (strZ_succ gs k)
    have b0 : ((k : Int) + 1 == 0) = false := by simp; omega
    unfold maxLen at hm
    clear hc hg hz
    go_enter Tryd.func111, Tryd.ntmps111
    go_wp2
    go_ret
    exact ⟨ret_i64 (by rw [K.out]), by (repeat (first | exact Below.refl _ _ | refine Below.setCell ?_ (by first | (simp; done) | (simp; omega) | omega) _ | refine belowN ?_ _ | refine Below.drew ?_ | refine Below.alloc ?_ (by first | (simp; done) | (simp; omega) | omega) _ | refine Below.trans ?_ (Below.mono (by assumption) (by first | (simp; done) | (simp; omega) | omega))))⟩

theorem glueAt_any (vg vt : Value) (S : Set_) (k m : Nat) (w : World) (ht : Tiles w vt S.ts) (hk : k < S.ts.length) (hm : m < 4) (h4 : (tS S.ts k).length = 4) :
    Calls Tryd.prog 93 #[.agg #[vg, vt], .int .i64 (k : Int), .int .i64 (m : Int)] w fun e w' => e = .returned (.int .i64 (sideZ S k m)) ∧ Below w.heap.size w w' := by
  obtain ⟨b, off, cap, rfl, hl, hmx, hc⟩ := tiles_open ht (by omega)
  obtain ⟨b2, o2, c, -, c1, hc4, hcm, hcc⟩ := hc k hk h4
  have d1 := akeep (o := .cells #[vg, .slice (some ⟨b, off, none⟩) S.ts.length cap] 38) c1
  have d2 := akeep (o := .cells #[vg, .slice (some ⟨b, off, none⟩) S.ts.length cap] 38) (hcc m hm)
  unfold maxLen at hmx hcm
  clear hc ht c1 hcc h4
  go_enter Tryd.func93, Tryd.ntmps93
  go_wp2
  go_ret
  exact ⟨rfl, by (repeat (first | exact Below.refl _ _ | refine Below.setCell ?_ (by first | (simp; done) | (simp; omega) | omega) _ | refine belowN ?_ _ | refine Below.drew ?_ | refine Below.alloc ?_ (by first | (simp; done) | (simp; omega) | omega) _ | refine Below.trans ?_ (Below.mono (by assumption) (by first | (simp; done) | (simp; omega) | omega))))⟩

/-- StrengthOf: the strength and the code. -/
noncomputable def so1 (S : Set_) (t d : Int) : Int := if validB S = true ∧ inB t 0 ((S.ts.length : Int) - 1) = true ∧ inB d 0 3 = true then strZ S.gs (sideZ S t.toNat d.toNat) else 0
noncomputable def so2 (S : Set_) (t d : Int) : Int := if validB S = true then (if inB t 0 ((S.ts.length : Int) - 1) = true ∧ inB d 0 3 = true then 0 else 2) else 1
theorem so_no {S : Set_} (h : validB S = false) (t d : Int) : so1 S t d = 0 ∧ so2 S t d = 1 := by simp [so1, so2, h]
theorem so_out {S : Set_} (h : validB S = true) {t d : Int} (h2 : ¬ (inB t 0 ((S.ts.length : Int) - 1) = true ∧ inB d 0 3 = true)) : so1 S t d = 0 ∧ so2 S t d = 2 :=
  ⟨by unfold so1; rw [if_neg (fun x => h2 x.2)], by unfold so2; rw [if_pos h, if_neg h2]⟩
theorem so_yes {S : Set_} (h : validB S = true) {t d : Int} (h2 : inB t 0 ((S.ts.length : Int) - 1) = true) (h3 : inB d 0 3 = true) : so1 S t d = strZ S.gs (sideZ S t.toNat d.toNat) ∧ so2 S t d = 0 :=
  ⟨by unfold so1; rw [if_pos ⟨h, h2, h3⟩], by unfold so2; rw [if_pos h, if_pos ⟨h2, h3⟩]⟩
theorem ret_ii {a b x y : Int} (h : a = x) (k : b = y) : Ending.returned (.tuple #[.int .i64 a, .int .i64 b]) = .returned (.tuple #[.int .i64 x, .int .i64 y]) := by rw [h, k]

end Go.Proofs.YtnofbeeihdgmdaaDoor
