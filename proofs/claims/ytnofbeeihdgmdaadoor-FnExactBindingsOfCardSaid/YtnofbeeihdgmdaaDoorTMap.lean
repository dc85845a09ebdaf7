/-
  The program's map from the points of an assembly to its tiles. Conditions: each theorem's own.
-/
import Derived.Test.YtnofbeeihdgmdaaDoorPlace
import Derived.Maps.OwnOps
import Derived.Maps.OwnSet
import Derived.Maps.Views
import Derived.DeepKeys5
import Derived.MapViews
namespace Go.Proofs.YtnofbeeihdgmdaaDoor
open Go.RowKit Go.Maps Go.WideMaps Go.Joins Go.ChangeShapes Go.WideShapes Go.Deep

theorem laidP : laidOutB Tryd.prog = true := by kernel_rfl
theorem lawP : Keyed Tryd.prog 44 := Keyed.of_law (deep_law_gate laidP (of_decide_eq_true (by kernel_rfl)) (of_decide_eq_true (by kernel_rfl)) (by kernel_rfl) (by kernel_rfl))
theorem zeroP1 (w : World) : (zeroValue 2).run Tryd.prog w = .ok (.int .i64 0) w := by kernel_rfl
/-- A point as a key. -/
def ptK (x y : Int) : Lit := (DataW.agg [.lit (.int .i64 x), .lit (.int .i64 y)] : DataW Unit).asKey
theorem keyOf_pt {x y : Int} (hx : (Lit.int .i64 x).wf = true) (hy : (Lit.int .i64 y).wf = true) : keyOf Tryd.prog 44 (.agg #[.int .i64 x, .int .i64 y]) = some (ptK x y) := by
  have hf : (Value.agg #[.int .i64 x, .int .i64 y]).formed Tryd.prog 44 = true := by
    have hC : Tryd.prog.cellsOf 44 = 2 := by kernel_rfl
    simp [Value.formed, Tryd.underlying44, hC]
  refine (keyOf_asKey (H := Unit) (enc := fun _ => ()) (w := default) (base := 0) (sp := fun _ => true) (held := true) (by kernel_rfl) (by kernel_rfl) hf (d := .agg [.lit (.int .i64 x), .lit (.int .i64 y)]) (ps := []) ?_).1
  exact shut_agg2 (y0 := (.lit (.int .i64 x), [])) (y1 := (.lit (.int .i64 y), [])) Tryd.underlying44 (by kernel_rfl) (by kernel_rfl) ⟨1, by simp [DataW.trod, Tryd.underlying2, hx]⟩ ⟨1, by simp [DataW.trod, Tryd.underlying2, hy]⟩

theorem wf_coord {a : Int} (h : inB a (-60) 60 = true) : (Lit.int .i64 a).wf = true := by
  have := inB_iff.1 h
  simp [Lit.wf, IntKind.min, IntKind.max, IntKind.signed, IntKind.bits]; omega
theorem ptB_parts {x y : Int} (h : ptB x y = true) : inB x (-60) 60 = true ∧ inB y (-60) 60 = true := by simpa [ptB] using h
theorem keyOf_ptB {x y : Int} (h : ptB x y = true) : keyOf Tryd.prog 44 (.agg #[.int .i64 x, .int .i64 y]) = some (ptK x y) := keyOf_pt (wf_coord (ptB_parts h).1) (wf_coord (ptB_parts h).2)
theorem ptK_inj {x y p q : Int} (h1 : ptB x y = true) (h2 : ptB p q = true) (h : ptK x y = ptK p q) : x = p ∧ y = q := by
  have a := keyOf_ptB h1
  have b := keyOf_ptB h2
  rw [h] at a
  have := lawP.inj a b
  simpa using this
theorem ptK_key {x y : Int} (h : ptB x y = true) : WideAt.IsKeyLit (ptK x y) := lawP.key (keyOf_ptB h)
/-- The map behind k placed tiles: each point leads to its tile. -/
def tMap (ps : List Pl) : Nat → DataW Unit
  | 0 => .map []
  | k + 1 => (tMap ps k).put (ptK (pX ps k) (pY ps k)) (.lit (.int .i64 (pT ps k)))
theorem tMap_tidy {ps : List Pl} (F : Form ps) {k : Nat} (hk : k ≤ ps.length) : Tidy (tMap ps k) := by
  induction k with
  | zero => exact tidy_empty
  | succ k ih => exact (ih (by omega)).put (ptK_key (F.all k (by omega)).pt) _
theorem tMap_has {ps : List Pl} (F : Form ps) {k : Nat} (hk : k ≤ ps.length) {x y : Int} (hp : ptB x y = true) : Maps.has (tMap ps k) (ptK x y) = true ↔ ∃ j, j < k ∧ pX ps j = x ∧ pY ps j = y := by
  induction k with
  | zero => simp [tMap, Maps.has]
  | succ k ih =>
    have hpk := (F.all k (by omega)).pt
    by_cases h : pX ps k = x ∧ pY ps k = y
    · obtain ⟨rfl, rfl⟩ := h
      exact ⟨fun _ => ⟨k, by omega, rfl, rfl⟩, fun _ => has_put_same (tMap_tidy F (by omega)).isMap (ptK_key hpk) _⟩
    · have e : Maps.has (tMap ps (k + 1)) (ptK x y) = Maps.has (tMap ps k) (ptK x y) := has_put_other (fun e => h (by have := ptK_inj hp hpk e; exact ⟨this.1.symm, this.2.symm⟩)) _
      rw [e, ih (by omega)]
      exact ⟨fun ⟨j, hj, hn⟩ => ⟨j, by omega, hn⟩, fun ⟨j, hj, hn⟩ => ⟨j, by
        rcases Nat.lt_or_eq_of_le (Nat.lt_succ_iff.1 hj) with h' | h'
        · exact h'
        · subst h'; exact absurd hn h, hn⟩⟩
theorem tMap_at {ps : List Pl} (F : Form ps) {k : Nat} (hk : k ≤ ps.length) {j : Nat} (hj : j < k) (z : DataW Unit) : (tMap ps k).atKey (ptK (pX ps j) (pY ps j)) z = .lit (.int .i64 (pT ps j)) := by
  induction k with
  | zero => omega
  | succ k ih =>
    have hpk := (F.all k (by omega)).pt
    by_cases h : j = k
    · subst h
      exact atKey_put_same (tMap_tidy F (by omega)).isMap (ptK_key hpk) _ z
    · have e : (tMap ps (k + 1)).atKey (ptK (pX ps j) (pY ps j)) z = (tMap ps k).atKey (ptK (pX ps j) (pY ps j)) z :=
        atKey_put_other (fun e => F.ne (i := j) (j := k) (by omega) (by omega) (ptK_inj (F.all j (by omega)).pt hpk e)) _ z
      rw [e]
      exact ih (by omega) (by omega)
/-- What a look-up finds. -/
theorem tMap_yes {ps : List Pl} (F : Form ps) {x y : Int} (hp : ptB x y = true) (h : ixN ps x y < ps.length) : Maps.has (tMap ps ps.length) (ptK x y) = true ∧ ∀ z, (tMap ps ps.length).atKey (ptK x y) z = .lit (.int .i64 (pT ps (ixN ps x y))) := by
  obtain ⟨e1, e2⟩ := ixN_at h
  refine ⟨(tMap_has F (Nat.le_refl _) hp).2 ⟨_, h, e1, e2⟩, fun z => ?_⟩
  have := tMap_at F (Nat.le_refl _) h z
  rw [e1, e2] at this
  exact this
theorem tMap_no {ps : List Pl} (F : Form ps) {x y : Int} (hp : ptB x y = true) (h : ¬ ixN ps x y < ps.length) : Maps.has (tMap ps ps.length) (ptK x y) = false := by
  cases e : Maps.has (tMap ps ps.length) (ptK x y)
  · rfl
  · obtain ⟨j, hj, hn⟩ := (tMap_has F (Nat.le_refl _) hp).1 e
    have := F.ix hj hn
    omega
/-- Block b is the map of these placed tiles. -/
def TMap (w : World) (b : Nat) (ps : List Pl) (k : Nat) : Prop := w.ownsMap Tryd.prog 44 (plainElem (H := Unit) Tryd.prog 2) b k (tMap ps k)
theorem TMap.below {w w1 : World} {b k : Nat} {ps : List Pl} (h : TMap w b ps k) (hb : Below w.heap.size w w1) : TMap w1 b ps k := by
  have hlt := World.ownsMap.lt h
  obtain ⟨es, clock, h1, h2⟩ := h
  exact ⟨es, clock, (hb.block _ hlt).trans h1, h2⟩
/-- A call that returns this map, in a block of its own. -/
def TMapPost (W : World) (ps : List Pl) (e : Ending) (w' : World) : Prop := ∃ b, e = .returned (.map (some b)) ∧ W.heap.size ≤ b ∧ TMap w' b ps ps.length
theorem lt_maxLen' {n : Nat} (h : n ≤ 1048576) : n < maxLen := by unfold maxLen; omega

end Go.Proofs.YtnofbeeihdgmdaaDoor
