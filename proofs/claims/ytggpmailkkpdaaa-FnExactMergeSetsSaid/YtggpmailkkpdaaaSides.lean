/-
  The sides of a tile as an array. Conditions: each theorem's own.
-/
import Derived.Test.YtggpmailkkpdaaaStep_
namespace Go.Proofs.Ytggpmailkkpdaaa
open Go.RowKit

/-- Four numbers as an array. -/
def arr4 (zs : List Int) : Value := .agg #[.int .i64 (iAt zs 0), .int .i64 (iAt zs 1), .int .i64 (iAt zs 2), .int .i64 (iAt zs 3)]

theorem copy4 (w : World) (x y : Obj) (b off cap : Nat) (z0 z1 z2 z3 : Int) (e0 : w.cell? ⟨b, off, none⟩ = some (.int .i64 z0)) (e1 : w.cell? ⟨b, off + 1, none⟩ = some (.int .i64 z1)) (e2 : w.cell? ⟨b, off + 2, none⟩ = some (.int .i64 z2)) (e3 : w.cell? ⟨b, off + 3, none⟩ = some (.int .i64 z3)) :
    (Builtin.copy_ #[37, 37] 3 #[.slice (some ⟨w.heap.size + 1 + 1, 0, none⟩) 4 4, .slice (some ⟨b, off, none⟩) 4 cap]).run Try.prog (((w.alloc x).alloc y).alloc (.cells #[.int .i64 0, .int .i64 0, .int .i64 0, .int .i64 0] 81)).drew =
      .ok (goInt 4) (((w.alloc x).alloc y).alloc (.cells #[.int .i64 z0, .int .i64 z1, .int .i64 z2, .int .i64 z3] 81)).drew := by
  obtain ⟨i0, hi, hz0, hz1, hz2⟩ := info_parts info_i64
  have hn : ((w.alloc x).alloc y).heap.size = w.heap.size + 1 + 1 := by simp
  rw [← hn]
  generalize hW : (w.alloc x).alloc y = W
  have k0 : W.cell? ⟨b, off, none⟩ = some (.int .i64 z0) := by subst hW; exact akeep (akeep e0)
  have k1 : W.cell? ⟨b, off + 1, none⟩ = some (.int .i64 z1) := by subst hW; exact akeep (akeep e1)
  have k2 : W.cell? ⟨b, off + 2, none⟩ = some (.int .i64 z2) := by subst hW; exact akeep (akeep e2)
  have k3 : W.cell? ⟨b, off + 3, none⟩ = some (.int .i64 z3) := by subst hW; exact akeep (akeep e3)
  refine (run_copy_cells (cs := [.int .i64 z0, .int .i64 z1, .int .i64 z2, .int .i64 z3]) _ _ _ _ 2 _ _ _ _ _ _ _ Try.underlying37 (by rw [hi]; simp [hz1]) rfl ?_ ?_ ?_ ?_).trans ?_
  · intro j v hj
    have hj4 : j < 4 := (List.getElem?_eq_some_iff.1 hj).1
    obtain rfl | rfl | rfl | rfl : j = 0 ∨ j = 1 ∨ j = 2 ∨ j = 3 := by omega
    all_goals
      simp at hj
      subst hj
      rw [Go.WideShapes.add_plain]
      exact dkeep (akeep (by assumption))
  · intro j hj
    have hj4 : j < 4 := hj
    obtain rfl | rfl | rfl | rfl : j = 0 ∨ j = 1 ∨ j = 2 ∨ j = 3 := by omega
    all_goals simp [go_sem]
  · intro j hj
    have hj4 : j < 4 := hj
    obtain rfl | rfl | rfl | rfl : j = 0 ∨ j = 1 ∨ j = 2 ∨ j = 3 := by omega
    all_goals simp [go_sem]
  · simp [Value.oneCell']
  · simp [World.setCells, go_sem]

set_option maxRecDepth 100000 in
set_option maxHeartbeats 4000000 in
theorem sidesOf_any (s : ByteArray) (v : Value) (zs : List Int) (w : World) (hv : Ints w v zs) (h4 : zs.length = 4) :
    Calls Try.prog 49 #[.agg #[.string s, v]] w fun e w' => e = .returned (arr4 zs) ∧ Below w.heap.size w w' := by
  obtain ⟨ao, cap, rfl, hl, hm, hc⟩ := hv
  obtain ⟨b, off, rfl, H1⟩ := hc (by omega)
  unfold maxLen at hm
  have e0 := H1 0 0 (by omega) (by omega)
  have e1 := H1 1 0 (by omega) (by omega)
  have e2 := H1 2 0 (by omega) (by omega)
  have e3 := H1 3 0 (by omega) (by omega)
  simp at e0 e1 e2 e3
  clear hc H1
  rw [h4] at hl ⊢
  have hcp := copy4 w (.cells #[.string s, .slice (some ⟨b, off, none⟩) 4 cap] 64) (.cells #[.int .i64 0, .int .i64 0, .int .i64 0, .int .i64 0] 81) b off cap _ _ _ _ e0 e1 e2 e3
  go_enter Try.func49, Try.ntmps49
  go_wp2_with fail
  go_region_held3 (fun w' => w'.cell? ⟨w.heap.size, 1, none⟩ = some (.slice (some ⟨b, off, none⟩) 4 cap)) ((((try go_split_ands); (try dsimp only); (repeat' apply And.intro)) <;> (repeat (first | with_reducible assumption | ((with_reducible refine gkeep hgrow4 ?_ ?_); rotate_left; with_reducible assumption) | ((with_reducible refine gfkeep hgrow4 ?_ ?_ ?_); rotate_left; (first | ((try dsimp only); omega) | (simp; done) | (simp; omega)); with_reducible assumption) | ((with_reducible refine afkeep ?_ ?_); rotate_left; (first | ((try dsimp only); omega) | (simp; done) | (simp; omega))) | (with_reducible refine dfkeep ?_) | ((with_reducible refine bfkeep hb3 ?_ ?_); rotate_left; (first | ((try dsimp only); omega) | (simp; done) | (simp; omega))) | ((with_reducible refine cnew0 ?_); simp; done) | ((with_reducible refine cnew1 ?_); simp; done) | (with_reducible refine akeep ?_) | (with_reducible refine dkeep ?_) | ((with_reducible refine skeep ?_ ?_); rotate_left; (first | ((try dsimp only); omega) | (simp; done) | (simp; omega))) | (with_reducible refine bkeep hb3 ?_))))) (fail)
  go_wp2_with fail
  refine bodyPost_ret (v := arr4 zs) ?_ rfl ⟨rfl, by (repeat (first | exact Below.refl _ _ | refine Below.setCell ?_ (by first | (simp; done) | (simp; omega) | omega) _ | refine belowN ?_ _ | refine Below.drew ?_ | refine Below.alloc ?_ (by first | (simp; done) | (simp; omega) | omega) _ | refine Below.trans ?_ (Below.mono (by assumption) (by first | (simp; done) | (simp; omega) | omega))))⟩
  simp [results, Try.results49, go_sem, arr4]

theorem idx4 (a b c d : Int) (W : World) (i : Nat) (hi : i < 4) :
    (Instr.index 81 (.agg #[.int .i64 a, .int .i64 b, .int .i64 c, .int .i64 d]) (.int .i64 (i : Int))).run Try.prog W = .ok (.int .i64 (iAt [a, b, c, d] i)) W := by
  obtain ⟨i0, hi0, hz0, hz1, hz2⟩ := info_parts info_i64
  have hr : (0 : Int) ≤ (i : Int) ∧ (i : Int) < 4 := by omega
  obtain rfl | rfl | rfl | rfl : i = 0 ∨ i = 1 ∨ i = 2 ∨ i = 3 := by omega
  all_goals simp [Instr.index, run_underlying Try.underlying81, asIntOf, part, sizeOf, typeInfo, hi0, hz1, iAt, go_sem]

/-- The sides after q quarters. -/
def rotAt (zs : List Int) (q d j : Nat) : Int := if (j + 4 - q) % 4 < d then iAt zs ((j + 4 - q) % 4) else 0
def rot (zs : List Int) (q : Nat) : List Int := [iAt zs ((4 - q) % 4), iAt zs ((5 - q) % 4), iAt zs ((6 - q) % 4), iAt zs ((7 - q) % 4)]

end Go.Proofs.Ytggpmailkkpdaaa
