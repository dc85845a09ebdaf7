/-
  The sides of a tile with new numbers. Conditions: each theorem's own.
-/
import Derived.Test.YtggpmailkkpdaaaSides
namespace Go.Proofs.Ytggpmailkkpdaaa
open Go.RowKit

/-- The sides with the new number of each glue. -/
def ren (ns zs : List Int) : List Int := [iAt ns (iAt zs 0).toNat, iAt ns (iAt zs 1).toNat, iAt ns (iAt zs 2).toNat, iAt ns (iAt zs 3).toNat]
def renAt (ns : List Int) (z0 z1 z2 z3 : Int) (d j : Nat) : Int :=
  if j < d then (if j = 0 then iAt ns z0.toNat else if j = 1 then iAt ns z1.toNat else if j = 2 then iAt ns z2.toNat else iAt ns z3.toNat)
  else (if j = 0 then z0 else if j = 1 then z1 else if j = 2 then z2 else z3)

set_option maxRecDepth 100000 in
set_option maxHeartbeats 4000000 in
theorem renumbered_any (zs ns : List Int) (v : Value) (w : World) (hv : Ints w v ns) (hz : ∀ k, k < 4 → 0 ≤ iAt zs k ∧ iAt zs k < ns.length) :
    Calls Try.prog 50 #[arr4 zs, v] w fun e w' => e = .returned (arr4 (ren ns zs)) ∧ Below w.heap.size w w' := by
  have h40 := hz 0 (by omega)
  have h41 := hz 1 (by omega)
  have h42 := hz 2 (by omega)
  have h43 := hz 3 (by omega)
  unfold arr4
  unfold ren
  generalize iAt zs 0 = z0 at *
  generalize iAt zs 1 = z1 at *
  generalize iAt zs 2 = z2 at *
  generalize iAt zs 3 = z3 at *
  clear hz
  obtain ⟨ao, cap, rfl, hl, hm, hc⟩ := hv
  unfold maxLen at hm
  have H0 := Lib.hid hc
  clear hc
  have R0 : ∀ n, n = w.heap.size → ((w.alloc (.cells #[.int .i64 z0, .int .i64 z1, .int .i64 z2, .int .i64 z3] 81)).alloc (.cells #[.int .i64 0, .int .i64 0, .int .i64 0, .int .i64 0] 81)).rowIs n 81 4 (fun j => .int .i64 (renAt ns z0 z1 z2 z3 0 j)) := by
    intro n hn
    subst hn
    refine (World.rowIs_alloc _ #[.int .i64 z0, .int .i64 z1, .int .i64 z2, .int .i64 z3] _ _ (fun i hi => ?_)).alloc _
    have hi4 : i < 4 := hi
    obtain rfl | rfl | rfl | rfl : i = 0 ∨ i = 1 ∨ i = 2 ∨ i = 3 := by omega
    all_goals simp [renAt]
  have R1 : ∀ n, n = w.heap.size + 1 → ((w.alloc (.cells #[.int .i64 z0, .int .i64 z1, .int .i64 z2, .int .i64 z3] 81)).alloc (.cells #[.int .i64 0, .int .i64 0, .int .i64 0, .int .i64 0] 81)).rowIs n 81 4 (fun _ => .int .i64 0) := by
    intro n hn
    obtain rfl : n = (w.alloc (.cells #[.int .i64 z0, .int .i64 z1, .int .i64 z2, .int .i64 z3] 81)).heap.size := by simpa using hn
    refine World.rowIs_alloc _ #[.int .i64 0, .int .i64 0, .int .i64 0, .int .i64 0] _ _ (fun i hi => ?_)
    have hi4 : i < 4 := hi
    obtain rfl | rfl | rfl | rfl : i = 0 ∨ i = 1 ∨ i = 2 ∨ i = 3 := by omega
    all_goals rfl
  have HR0 := Lib.hid R0
  have HR1 := Lib.hid R1
  clear R0 R1
  go_enter Try.func50, Try.ntmps50
  go_wp2_with fail
  go_loopw [8] (fun i wr => ∃ d : Nat, d ≤ 4 ∧ i = .int .i64 d ∧ wr.rowIs w.heap.size 81 4 (fun j => .int .i64 (renAt ns z0 z1 z2 z3 d j)) ∧ wr.rowIs (w.heap.size + 1) 81 4 (fun _ => .int .i64 0) ∧ Below w.heap.size w wr) (fun i _ => 4 - (intOf i).toNat)
  case atStart => exact ⟨0, by omega, rfl, HR0.out _ rfl, HR1.out _ rfl, by (repeat (first | exact Below.refl _ _ | refine Below.setCell ?_ (by first | (simp; done) | (simp; omega) | omega) _ | refine belowN ?_ _ | refine Below.drew ?_ | refine Below.alloc ?_ (by first | (simp; done) | (simp; omega) | omega) _ | refine Below.trans ?_ (Below.mono (by assumption) (by first | (simp; done) | (simp; omega) | omega))))⟩
  case round =>
    obtain ⟨d, hd, rfl, h0, h1, hb⟩ := hrel
    have HA := Lib.hid h0
    have HB := Lib.hid h1
    by_cases hlt : d < 4
    · have c := fun i (hi : i < 4) => h0.cell (i := i) hi
      have z := fun i => h0.frozen i
      have e0 := c 0 (by omega)
      have e1 := c 1 (by omega)
      have e2 := c 2 (by omega)
      have e3 := c 3 (by omega)
      clear c h0 h1
      have ix0 : (Instr.index 81 (.agg #[.int .i64 z0, .int .i64 z1, .int .i64 z2, .int .i64 z3]) (.int .i64 0)).run Try.prog wr = .ok (.int .i64 z0) wr := idx4 _ _ _ _ wr 0 (by omega)
      have ix1 : (Instr.index 81 (.agg #[.int .i64 z0, .int .i64 z1, .int .i64 z2, .int .i64 z3]) (.int .i64 1)).run Try.prog wr = .ok (.int .i64 z1) wr := idx4 _ _ _ _ wr 1 (by omega)
      have ix2 : (Instr.index 81 (.agg #[.int .i64 z0, .int .i64 z1, .int .i64 z2, .int .i64 z3]) (.int .i64 2)).run Try.prog wr = .ok (.int .i64 z2) wr := idx4 _ _ _ _ wr 2 (by omega)
      have ix3 : (Instr.index 81 (.agg #[.int .i64 z0, .int .i64 z1, .int .i64 z2, .int .i64 z3]) (.int .i64 3)).run Try.prog wr = .ok (.int .i64 z3) wr := idx4 _ _ _ _ wr 3 (by omega)
      obtain ⟨b, off, rfl, H1⟩ := H0.out (by omega)
      have k0 := cell_below hb (H1 z0.toNat 0 (by omega) (by omega))
      have k1 := cell_below hb (H1 z1.toNat 0 (by omega) (by omega))
      have k2 := cell_below hb (H1 z2.toNat 0 (by omega) (by omega))
      have k3 := cell_below hb (H1 z3.toNat 0 (by omega) (by omega))
      simp at k0 k1 k2 k3
      clear H1
      obtain rfl | rfl | rfl | rfl : d = 0 ∨ d = 1 ∨ d = 2 ∨ d = 3 := by omega
      all_goals go_wp2_with fail
      all_goals
        refine ⟨⟨_, ?_, rfl, (HA.out.set _ _).congr (fun j hj => ?_), HB.out.setOther (by simp) _, by (repeat (first | exact Below.refl _ _ | refine Below.setCell ?_ (by first | (simp; done) | (simp; omega) | omega) _ | refine belowN ?_ _ | refine Below.drew ?_ | refine Below.alloc ?_ (by first | (simp; done) | (simp; omega) | omega) _ | refine Below.trans ?_ (Below.mono (by assumption) (by first | (simp; done) | (simp; omega) | omega))))⟩, by simp [intOf]⟩
        · exact Nat.le_of_ble_eq_true rfl
        · obtain rfl | rfl | rfl | rfl : j = 0 ∨ j = 1 ∨ j = 2 ∨ j = 3 := by omega
          all_goals simp [renAt]
    · obtain rfl : d = 4 := by omega
      have e0 := h0.cell (i := 0) (by omega)
      have e1 := h0.cell (i := 1) (by omega)
      have e2 := h0.cell (i := 2) (by omega)
      have e3 := h0.cell (i := 3) (by omega)
      have g0 := h1.cell (i := 0) (by omega)
      have g1 := h1.cell (i := 1) (by omega)
      have g2 := h1.cell (i := 2) (by omega)
      have g3 := h1.cell (i := 3) (by omega)
      have z := h1.frozen
      clear h0 h1
      simp [renAt] at e0 e1 e2 e3
      go_wp2_with fail
      refine bodyPost_ret (v := .agg #[.int .i64 (iAt ns z0.toNat), .int .i64 (iAt ns z1.toNat), .int .i64 (iAt ns z2.toNat), .int .i64 (iAt ns z3.toNat)]) ?_ rfl ⟨rfl, by (repeat (first | exact Below.refl _ _ | refine Below.setCell ?_ (by first | (simp; done) | (simp; omega) | omega) _ | refine belowN ?_ _ | refine Below.drew ?_ | refine Below.alloc ?_ (by first | (simp; done) | (simp; omega) | omega) _ | refine Below.trans ?_ (Below.mono (by assumption) (by first | (simp; done) | (simp; omega) | omega))))⟩
      simp [results, Try.results50, go_sem, g0, g1, g2, g3]

end Go.Proofs.Ytggpmailkkpdaaa
