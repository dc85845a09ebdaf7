/-
  The program's maps from the names of glues and of tiles to their numbers. Conditions: each theorem's own.
-/
import Derived.Test.YtnofbeeihdgmdaaDoorMap
namespace Go.Proofs.YtnofbeeihdgmdaaDoor
open Go.RowKit Go.Maps Go.WideMaps

theorem lt_maxLen {n : Nat} (h : n ≤ 1048576) : n < maxLen := by unfold maxLen; omega
theorem wf_small {a : Int} (h0 : 0 ≤ a) (h1 : a ≤ 1048577) : (Lit.int .i64 a).wf = true := by simp [Lit.wf, IntKind.min, IntKind.max, IntKind.signed, IntKind.bits]; omega
/-- A call that returns a map of these names, in a block of its own. -/
def MapPost (W : World) (N : Nat → ByteArray) (c : Int) (k : Nat) (e : Ending) (w' : World) : Prop := e = .returned (.map (some W.heap.size)) ∧ NumMap w' W.heap.size N c k

set_option maxHeartbeats 400000 in
theorem glueNumbers_any (v : Value) (gs : List Gl) (w : World) (hg : Glues w v gs) (ok : ∀ g ∈ gs, g.ok) (hn : gs.length ≤ 1048576) :
    Calls Tryd.prog 120 #[v] w fun e w' => MapPost w (gN gs) 1 gs.length e w' ∧ Below w.heap.size w w' := by
  obtain ⟨ao, cap, rfl, hl, hm, hc⟩ := hg
  unfold maxLen at hm
  have H0 := Lib.hid hc
  have hmm := @run_makeMap Tryd.prog
  clear hc
  go_enter Tryd.func120, Tryd.ntmps120
  go_wp2_with fail
  go_loopw [9] (fun i wr => ∃ k : Nat, k ≤ gs.length ∧ i = .int .i64 k ∧ NumMap wr w.heap.size (gN gs) 1 k ∧ Below w.heap.size w wr) (fun i _ => gs.length - (intOf i).toNat)
  case atStart => exact ⟨0, by omega, rfl, World.ownsMap_made _ _ _ _, by (repeat (first | exact Below.refl _ _ | refine Below.setCell ?_ (by first | (simp; done) | (simp; omega) | omega) _ | refine belowN ?_ _ | refine Below.drew ?_ | refine Below.alloc ?_ (by first | (simp; done) | (simp; omega) | omega) _ | refine Below.trans ?_ (Below.mono (by assumption) (by first | (simp; done) | (simp; omega) | omega))))⟩
  case round =>
    obtain ⟨k, hk, rfl, hown, hbw⟩ := hrel
    have hlt0 := World.ownsMap.lt hown
    by_cases hlt : k < gs.length
    · obtain ⟨b, off, rfl, H1⟩ := H0.out (by omega)
      have c0 := cell_below hbw (H1 k 0 hlt (by omega))
      have c1 := cell_below hbw (H1 k 1 hlt (by omega))
      simp at c0 c1
      clear H1
      have hN := (gN_ok ok hlt).1
      go_wp2_with (at_mapUpdate; refine wpList_mapUpdate_own _ rfl _ _ _ 159 rfl 9 2 law Tryd.underlying159 _ w.heap.size k _ rfl (World.ownsMap.alloc hown _) (lt_maxLen (by omega)) _ _ _ rfl rfl (keyOf_string_mk Tryd.underlying9 hN) _ [] (plainElem_int Tryd.underlying2 (wf_small (by omega) (by omega))) ?_; intro w1 hown1 hgrow1)
      go_roundw
      case rel => exact ⟨k + 1, by omega, by go_num, hown1, by exact (((hbw.alloc (by omega) _)).grown hgrow1 (by simp; omega) (fun j hj => by cases hj; exact Nat.le_refl _))⟩
      case measure => simp [intOf]; omega
    · obtain rfl : k = gs.length := by omega
      go_wp2
      go_ret
      exact ⟨⟨rfl, hown⟩, hbw⟩

theorem NumMap.step0 {w : World} {b k : Nat} {N : Nat → ByteArray} (h : w.ownsMap Tryd.prog 9 (plainElem (H := Unit) Tryd.prog 2) b (k + 1) ((numMap N 0 k).put (keyL (N k)) (.lit (.int .i64 (k : Int))))) : NumMap w b N 0 (k + 1) := by
  have e : numMap N 0 (k + 1) = (numMap N 0 k).put (keyL (N k)) (.lit (.int .i64 (k : Int))) := by simp [numMap]
  unfold NumMap
  rw [e]
  exact h

set_option maxHeartbeats 400000 in
theorem tileIndices_any (v : Value) (ts : List Tl) (w : World) (hg : Tiles w v ts) (ok : ∀ t ∈ ts, t.ok) (hn : ts.length ≤ 1048576) :
    Calls Tryd.prog 122 #[v] w fun e w' => MapPost w (tN ts) 0 ts.length e w' ∧ Below w.heap.size w w' := by
  obtain ⟨sv, ⟨ao, cap, rfl, hl, hm, hc⟩, hsv⟩ := hg
  unfold maxLen at hm
  have H0 := Lib.hid hc
  have HS := Lib.hid hsv
  have hmm := @run_makeMap Tryd.prog
  clear hc hsv
  go_enter Tryd.func122, Tryd.ntmps122
  go_wp2_with fail
  go_loopw [9] (fun i wr => ∃ k : Nat, k ≤ ts.length ∧ i = .int .i64 k ∧ NumMap wr w.heap.size (tN ts) 0 k ∧ Below w.heap.size w wr) (fun i _ => ts.length - (intOf i).toNat)
  case atStart => exact ⟨0, by omega, rfl, World.ownsMap_made _ _ _ _, by (repeat (first | exact Below.refl _ _ | refine Below.setCell ?_ (by first | (simp; done) | (simp; omega) | omega) _ | refine belowN ?_ _ | refine Below.drew ?_ | refine Below.alloc ?_ (by first | (simp; done) | (simp; omega) | omega) _ | refine Below.trans ?_ (Below.mono (by assumption) (by first | (simp; done) | (simp; omega) | omega))))⟩
  case round =>
    obtain ⟨k, hk, rfl, hown, hbw⟩ := hrel
    have hlt0 := World.ownsMap.lt hown
    by_cases hlt : k < ts.length
    · obtain ⟨b, off, rfl, H1⟩ := H0.out (by omega)
      have c0 := cell_below hbw (H1 k 0 hlt (by omega))
      have c1 := cell_below hbw (H1 k 1 hlt (by omega))
      simp at c0 c1
      obtain ⟨so, scap, hsk, -⟩ := HS.out k hlt
      rw [hsk] at c1
      clear H1 hsk
      have hN := (tN_ok ok hlt).1
      go_wp2_with (at_mapUpdate; refine wpList_mapUpdate_own _ rfl _ _ _ 159 rfl 9 2 law Tryd.underlying159 _ w.heap.size k _ rfl (World.ownsMap.alloc hown _) (lt_maxLen (by omega)) _ _ _ rfl rfl (keyOf_string_mk Tryd.underlying9 hN) _ [] (plainElem_int Tryd.underlying2 (wf_small (by omega) (by omega))) ?_; intro w1 hown1 hgrow1)
      go_roundw
      case rel => exact ⟨k + 1, by omega, by go_num, NumMap.step0 hown1, by exact (((hbw.alloc (by omega) _)).grown hgrow1 (by simp; omega) (fun j hj => by cases hj; exact Nat.le_refl _))⟩
      case measure => simp [intOf]; omega
    · obtain rfl : k = ts.length := by omega
      go_wp2
      go_ret
      exact ⟨⟨rfl, hown⟩, hbw⟩

end Go.Proofs.YtnofbeeihdgmdaaDoor
