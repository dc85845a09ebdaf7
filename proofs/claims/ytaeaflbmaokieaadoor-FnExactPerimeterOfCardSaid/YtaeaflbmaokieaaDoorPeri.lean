/-
  The perimeter of a shape, the model's and the program's. Conditions: each theorem's own; the program's reads the listed table of steps.
-/
import Derived.Test.YtaeaflbmaokieaaDoorPSet
import Derived.Test.YtaeaflbmaokieaaDoorStep
namespace Go.Proofs.YtaeaflbmaokieaaDoor
open Go.RowKit

/-- 1 where the point beside has no place in the list. -/
def outQ (D : Cols) (x y : Int) (d : Nat) : Int := if hasQ D (stepX x d) (stepY y d) = true then 0 else 1
/-- The open sides of a point in the first d directions. -/
def sidesQ (D : Cols) (x y : Int) : Nat → Int
  | 0 => 0
  | d + 1 => sidesQ D x y d + outQ D x y d
/-- The open sides of the first k points. -/
def periQ (D : Cols) : Nat → Int
  | 0 => 0
  | k + 1 => periQ D k + sidesQ D (D.c k 0) (D.c k 1) 4
theorem outQ_yes {D : Cols} {x y : Int} {d : Nat} (h : hasQ D (stepX x d) (stepY y d) = true) : outQ D x y d = 0 := by unfold outQ; rw [if_pos h]
theorem outQ_no {D : Cols} {x y : Int} {d : Nat} (h : hasQ D (stepX x d) (stepY y d) = false) : outQ D x y d = 1 := by unfold outQ; rw [if_neg (by simp [h])]
theorem outQ_in (D : Cols) (x y : Int) (d : Nat) : 0 ≤ outQ D x y d ∧ outQ D x y d ≤ 1 := by unfold outQ; split <;> omega
theorem sidesQ_in (D : Cols) (x y : Int) (d : Nat) : 0 ≤ sidesQ D x y d ∧ sidesQ D x y d ≤ d := by
  induction d with
  | zero => simp [sidesQ]
  | succ d ih => have := outQ_in D x y d; simp only [sidesQ]; omega
theorem periQ_in (D : Cols) (k : Nat) : 0 ≤ periQ D k ∧ periQ D k ≤ 4 * k := by
  induction k with
  | zero => simp [periQ]
  | succ k ih => have := sidesQ_in D (D.c k 0) (D.c k 1) 4; simp only [periQ]; omega
/-- What PerimeterOf answers. -/
noncomputable def peR (D : Cols) : Int := if shB D = true then periQ D D.n else 0
noncomputable def peC (D : Cols) : Int := if shB D = true then 0 else 1
theorem near_step {x y : Int} {d : Nat} (h : ptB x y = true) : Near (stepX x d) (stepY y d) := by
  have h' : inB x (-60) 60 = true ∧ inB y (-60) 60 = true := by simpa [ptB] using h
  have a := inB_iff.1 h'.1
  have b := inB_iff.1 h'.2
  constructor
  · unfold stepX; (repeat' split) <;> omega
  · unfold stepY; (repeat' split) <;> omega
theorem ptB_in {x y : Int} (h : ptB x y = true) : (-60 ≤ x ∧ x ≤ 60) ∧ (-60 ≤ y ∧ y ≤ 60) := by
  have h' : inB x (-60) 60 = true ∧ inB y (-60) 60 = true := by simpa [ptB] using h
  exact ⟨inB_iff.1 h'.1, inB_iff.1 h'.2⟩
theorem ret_two {a b x y : Int} (h : a = x) (k : b = y) : Ending.returned (.tuple #[.int .i64 a, .int .i64 b]) = .returned (.tuple #[.int .i64 x, .int .i64 y]) := by rw [h, k]

set_option maxRecDepth 100000 in
set_option maxHeartbeats 4000000 in
set_option linter.unusedSimpArgs false in
theorem specPeri_any (v : Value) (D : Cols) (w : World) (hv : Qs w v D) :
    Calls Tryd.prog 6 #[v] w fun e w' => e = .returned (.tuple #[.int .i64 (peR D), .int .i64 (peC D)]) ∧ Below w.heap.size w w' := by
  cases hb : shB D
  · have K1 : peR D = 0 := by unfold peR; rw [hb]; rfl
    have K2 : peC D = 1 := by unfold peC; rw [hb]; rfl
    have L := (l04Ok_any v D w hv)
    rw [hb] at L
    go_enter Tryd.func6, Tryd.ntmps6
    go_wp2_with fail
    refine L.mono ?_
    rintro e w1 ⟨rfl, hb1⟩
    go_wp2
    refine bodyPost_ret (v := .tuple #[.int .i64 0, .int .i64 1]) ?_ rfl ⟨?_, hb1⟩
    · simp [results, Tryd.results6, go_sem]
    · rw [K1, K2]
  · have K1 : peR D = periQ D D.n := by unfold peR; rw [hb]; rfl
    have K2 : peC D = 0 := by unfold peC; rw [hb]; rfl
    have L := (l04Ok_any v D w hv)
    rw [hb] at L
    have F := shB_iff.1 hb
    have HF := Lib.hid F
    have HV := Lib.hid hv
    have h500 := F.len
    have HK1 := Lib.hid K1
    have HK2 := Lib.hid K2
    obtain ⟨ao, cap, rfl, hl, hm, hc⟩ := hv.open_
    unfold maxLen at hm
    have H0 := Lib.hid hc
    clear hc F hb K1 K2 hv
    go_enter Tryd.func6, Tryd.ntmps6
    go_wp2_with fail
    refine L.mono ?_
    rintro e w1 ⟨rfl, hb1⟩
    go_wp2_with fail
    go_loopw [4, 5] (fun c i wr => ∃ k : Nat, k ≤ D.n ∧ i = .int .i64 k ∧ (∃ n : Int, n = periQ D k ∧ c = .int .i64 n) ∧ Below w.heap.size w wr) (fun _ i _ => D.n - (intOf i).toNat)
    case atStart => exact ⟨0, by omega, rfl, ⟨0, by simp [periQ], rfl⟩, hb1⟩
    case round =>
      obtain ⟨k, hk, rfl, ⟨n, hn, rfl⟩, hbw⟩ := hrel
      have hn1 := periQ_in D k
      rw [← hn] at hn1
      have HN := Lib.hid hn
      clear hn
      by_cases hlt : k < D.n
      · obtain ⟨b, off, rfl, H1⟩ := H0.out (by omega)
        obtain ⟨c0, c1⟩ := H1 k hlt
        have HP := Lib.hid (HF.out.all k hlt).pt
        have hpp := ptB_in (HF.out.all k hlt).pt
        clear H1
        generalize hX : D.c k 0 = x at *
        generalize hY : D.c k 1 = y at *
        go_wp2_with fail
        go_loopw [4, 6] (fun c i wr => ∃ d : Nat, d ≤ 4 ∧ i = .int .i64 d ∧ (∃ m : Int, m = n + sidesQ D x y d ∧ c = .int .i64 m) ∧ Below w.heap.size w wr) (fun _ i _ => 4 - (intOf i).toNat)
        case atStart => exact ⟨0, by omega, rfl, ⟨n, by simp [sidesQ], rfl⟩, hbw⟩
        case round =>
          obtain ⟨d, hd, rfl, ⟨m, hm2, rfl⟩, hbw2⟩ := hrel
          have hs := sidesQ_in D x y d
          have hm3 : 0 ≤ m ∧ m ≤ 3000 := by omega
          have HM := Lib.hid hm2
          clear hm2 hs
          by_cases hd4 : d < 4
          · have c0 := cell_below hbw2 c0
            have c1 := cell_below hbw2 c1
            have hd4' : (d : Int) < 4 := by omega
            have sz2 := hbw2.size
            cases hh : hasQ D (stepX x d) (stepY y d)
            · have hq := Lib.hid (outQ_no hh)
              go_wp2_with (first
                | (go_at_call 14; refine (l01Step_any x y d _ (by omega) (by omega) (by omega) (by omega) (by omega) (by omega)).mono ?_; rintro e w3 ⟨rfl, hb3⟩; have sz3 := hb3.size)
                | (go_at_call 13; refine (l04Has_any _ D (stepX x d) (stepY y d) _ (HV.out.below (show Below w.heap.size w _ by (repeat (first | exact Below.refl _ _ | refine Below.setCell ?_ (by first | (simp; done) | (simp; omega) | omega) _ | refine belowN ?_ _ | refine Below.drew ?_ | refine Below.alloc ?_ (by first | (simp; done) | (simp; omega) | omega) _ | refine Below.trans ?_ (Below.mono (by assumption) (by first | (simp; done) | (simp; omega) | omega)))))) HF.out).mono ?_; rintro e w4 ⟨rfl, hb4⟩; have sz4 := hb4.size; rw [hh]))
              go_roundw
              case rel => exact ⟨d + 1, by omega, by go_num, ⟨m + 1, by rw [HM.out]; simp only [sidesQ]; rw [hq.out]; omega, by go_num⟩, by (repeat (first | exact Below.refl _ _ | refine Below.setCell ?_ (by first | (simp; done) | (simp; omega) | omega) _ | refine belowN ?_ _ | refine Below.drew ?_ | refine Below.alloc ?_ (by first | (simp; done) | (simp; omega) | omega) _ | refine Below.trans ?_ (Below.mono (by assumption) (by first | (simp; done) | (simp; omega) | omega))))⟩
              case measure => simp [intOf]; omega
            · have hq := Lib.hid (outQ_yes hh)
              go_wp2_with (first
                | (go_at_call 14; refine (l01Step_any x y d _ (by omega) (by omega) (by omega) (by omega) (by omega) (by omega)).mono ?_; rintro e w3 ⟨rfl, hb3⟩; have sz3 := hb3.size)
                | (go_at_call 13; refine (l04Has_any _ D (stepX x d) (stepY y d) _ (HV.out.below (show Below w.heap.size w _ by (repeat (first | exact Below.refl _ _ | refine Below.setCell ?_ (by first | (simp; done) | (simp; omega) | omega) _ | refine belowN ?_ _ | refine Below.drew ?_ | refine Below.alloc ?_ (by first | (simp; done) | (simp; omega) | omega) _ | refine Below.trans ?_ (Below.mono (by assumption) (by first | (simp; done) | (simp; omega) | omega)))))) HF.out).mono ?_; rintro e w4 ⟨rfl, hb4⟩; have sz4 := hb4.size; rw [hh]))
              go_roundw
              case rel => exact ⟨d + 1, by omega, by go_num, ⟨m, by rw [HM.out]; simp only [sidesQ]; rw [hq.out]; omega, rfl⟩, by (repeat (first | exact Below.refl _ _ | refine Below.setCell ?_ (by first | (simp; done) | (simp; omega) | omega) _ | refine belowN ?_ _ | refine Below.drew ?_ | refine Below.alloc ?_ (by first | (simp; done) | (simp; omega) | omega) _ | refine Below.trans ?_ (Below.mono (by assumption) (by first | (simp; done) | (simp; omega) | omega))))⟩
              case measure => simp [intOf]; omega
          · obtain rfl : d = 4 := by omega
            go_wp2_with fail
            go_roundw
            case rel => exact ⟨k + 1, by omega, by go_num, ⟨m, by rw [HM.out, HN.out]; simp only [periQ]; rw [hX, hY], rfl⟩, by (repeat (first | exact Below.refl _ _ | refine Below.setCell ?_ (by first | (simp; done) | (simp; omega) | omega) _ | refine belowN ?_ _ | refine Below.drew ?_ | refine Below.alloc ?_ (by first | (simp; done) | (simp; omega) | omega) _ | refine Below.trans ?_ (Below.mono (by assumption) (by first | (simp; done) | (simp; omega) | omega))))⟩
            case measure => simp [intOf]; omega
      · obtain rfl : k = D.n := by omega
        go_wp2_with fail
        refine bodyPost_ret (v := .tuple #[.int .i64 n, .int .i64 0]) ?_ rfl ⟨?_, hbw⟩
        · simp [results, Tryd.results6, go_sem]
        · exact ret_two (by rw [HK1.out, HN.out]) HK2.out.symm

end Go.Proofs.YtaeaflbmaokieaaDoor
